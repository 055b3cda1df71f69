/- The walk of the law ArenaOne. -/
import Derived.Test.YtbhblffomlhopabC2
namespace Go.Proofs.Ytbhblffomlhopab
open Go.RowKit
set_option linter.unusedVariables false
set_option linter.unusedSimpArgs false

/-- an arena of a call's own, of so many words -/
def FreshN (w : World) (L : Nat) (ws : List Nat) (why : Int) (e : Ending) (w' : World) : Prop :=
  ∃ A cap, e = .returned (.tuple #[.agg #[.slice A L cap], .int .i64 why]) ∧ (Own w' w.heap.size A ws ∧ ws.length ≤ cap) ∧ Below w.heap.size w w'
theorem FreshA.n {w w' : World} {ws : List Nat} {why : Int} {e : Ending} (h : FreshA w ws why e w') {L : Nat} (hL : ws.length = L) : FreshN w L ws why e w' := by
  subst hL
  exact h
theorem load_n {A : Option Addr} {ws : List Nat} {w : World} (cap i L : Nat) (hL : ws.length = L) (hr : Row w w.heap.size A ws) (h1 : i < W64) :
    Calls Try.prog 20 #[.agg #[.slice A L cap], .int .u64 (i : Nat)] w fun e w' => e = .returned (.tuple #[.int .u64 (gotA ws i : Nat), .int .i64 (errA ws (i + 1 ≤ L))]) ∧ Below w.heap.size w w' := by
  subst hL
  exact load_any cap i hr h1
theorem errA_eq {ws us : List Nat} {p : Prop} [Decidable p] (h : us.length = ws.length) : errA us p = errA ws p := by unfold errA; rw [h]

set_option maxHeartbeats 1000000 in
theorem aone_err (i v o : Int) (cap : Nat) {A : Option Addr} {ws : List Nat} {w : World} (us : List Nat) (why : Int) (hr : Row w w.heap.size A ws) (hne : (why != 0) = true)
    (S : ∀ (w : World) (A : Option Addr) (cap : Nat), Row w w.heap.size A ws → Calls Try.prog 11 #[.agg #[.slice A ws.length cap], .int .u64 i, .int .u64 v] w fun e w' => FreshA w us why e w') :
    Calls Try.prog 5 #[.agg #[.slice A ws.length cap], .int .u64 i, .int .u64 v, .int .u64 o] w fun e w' => e = .returned (.bool true) ∧ Below w.heap.size w w' := by
  have P := Lib.hid S
  clear S
  go_enter Try.func5, Try.ntmps5
  go_wp2_with fail
  go_at_call 13
  refine (words_any _).mono ?_
  rintro e w1 ⟨rfl, hb_w1⟩
  obtain ⟨hc_w1, hf_w1⟩ := bcell hb_w1; have hz_w1_w_0 : w.heap.size < w1.heap.size := (by have hzz := hb_w1.size; (try simp only [World.size_alloc, World.size_setCell, World.size_drew, World.heap_drewN] at hzz); omega); have hs_w1 := hb_w1.size; (try simp only [World.size_alloc, World.size_setCell, World.size_drew, World.heap_drewN] at hs_w1)
  go_wp2_with fail
  go_at_call 11
  refine (P.out _ _ _ (hr.later (by repeat (first | exact Below.refl _ _ | assumption | (refine below_drewN ?_ _) | (refine Below.drew ?_) | (refine Below.alloc ?_ (by first | omega | (simp; omega) | simp) _) | (refine Below.setCell ?_ (by first | omega | (simp; omega) | simp) _) | (refine below_trans ?_ (by assumption) (by first | omega | (simp; omega) | simp)))))).mono ?_
  rintro e w2 ⟨A2, cap2, rfl, ho2, hb_w2⟩
  obtain ⟨hc_w2, hf_w2⟩ := bcell hb_w2; have hz_w2_w_0 : w.heap.size < w2.heap.size := (by have hzz := hb_w2.size; (try simp only [World.size_alloc, World.size_setCell, World.size_drew, World.heap_drewN] at hzz); omega); have hs_w2 := hb_w2.size; (try simp only [World.size_alloc, World.size_setCell, World.size_drew, World.heap_drewN] at hs_w2)
  go_wp2
  go_ret
  exact ⟨rfl, (by repeat (first | exact Below.refl _ _ | assumption | (refine below_drewN ?_ _) | (refine Below.drew ?_) | (refine Below.alloc ?_ (by first | omega | (simp; omega) | simp) _) | (refine Below.setCell ?_ (by first | omega | (simp; omega) | simp) _) | (refine below_trans ?_ (by assumption) (by first | omega | (simp; omega) | simp))))⟩
set_option maxHeartbeats 1000000 in
theorem aone_ok (i v o : Int) (cap : Nat) {A : Option Addr} {ws : List Nat} {w : World} (us : List Nat) (x y : Nat) (y2 : Int) (hr : Row w w.heap.size A ws) (hL : ws.length ≤ 16384) (hxy : (o == i) = true ∨ ((o == i) = false ∧ ((x : Int) == (y : Int)) = true))
    (S : ∀ (w : World) (A : Option Addr) (cap : Nat), Row w w.heap.size A ws → Calls Try.prog 11 #[.agg #[.slice A ws.length cap], .int .u64 i, .int .u64 v] w fun e w' => FreshN w ws.length us 0 e w')
    (L1 : ∀ (w : World) (A : Option Addr) (cap : Nat), Row w w.heap.size A us → Calls Try.prog 20 #[.agg #[.slice A ws.length cap], .int .u64 i] w fun e w' => e = .returned (.tuple #[.int .u64 v, .int .i64 0]) ∧ Below w.heap.size w w')
    (L2 : ∀ (w : World) (A : Option Addr) (cap : Nat), Row w w.heap.size A ws → Calls Try.prog 20 #[.agg #[.slice A ws.length cap], .int .u64 o] w fun e w' => e = .returned (.tuple #[.int .u64 (x : Nat), .int .i64 y2]) ∧ Below w.heap.size w w')
    (L3 : ∀ (w : World) (A : Option Addr) (cap : Nat), Row w w.heap.size A us → Calls Try.prog 20 #[.agg #[.slice A ws.length cap], .int .u64 o] w fun e w' => e = .returned (.tuple #[.int .u64 (y : Nat), .int .i64 y2]) ∧ Below w.heap.size w w') :
    Calls Try.prog 5 #[.agg #[.slice A ws.length cap], .int .u64 i, .int .u64 v, .int .u64 o] w fun e w' => e = .returned (.bool true) ∧ Below w.heap.size w w' := by
  have P := Lib.hid S
  have Q1 := Lib.hid L1
  have Q2 := Lib.hid L2
  have Q3 := Lib.hid L3
  have e1 : (v == v) = true := by simp
  have e2 : (y2 == y2) = true := by simp
  have e3 : ((ws.length : Int) == (ws.length : Int)) = true := by simp
  clear S L1 L2 L3
  rcases hxy with hxy | ⟨hxy, hxy2⟩
  all_goals
    go_enter Try.func5, Try.ntmps5
    go_wp2_with fail
    go_at_call 13
    refine (words_any _).mono ?_
    rintro e w1 ⟨rfl, hb_w1⟩
    obtain ⟨hc_w1, hf_w1⟩ := bcell hb_w1; have hz_w1_w_0 : w.heap.size < w1.heap.size := (by have hzz := hb_w1.size; (try simp only [World.size_alloc, World.size_setCell, World.size_drew, World.heap_drewN] at hzz); omega); have hs_w1 := hb_w1.size; (try simp only [World.size_alloc, World.size_setCell, World.size_drew, World.heap_drewN] at hs_w1)
    go_wp2_with fail
    go_at_call 11
    refine (P.out _ _ _ (hr.later (by repeat (first | exact Below.refl _ _ | assumption | (refine below_drewN ?_ _) | (refine Below.drew ?_) | (refine Below.alloc ?_ (by first | omega | (simp; omega) | simp) _) | (refine Below.setCell ?_ (by first | omega | (simp; omega) | simp) _) | (refine below_trans ?_ (by assumption) (by first | omega | (simp; omega) | simp)))))).mono ?_
    rintro e w2 ⟨A2, cap2, rfl, ho2, hb_w2⟩
    obtain ⟨hc_w2, hf_w2⟩ := bcell hb_w2; have hz_w2_w_0 : w.heap.size < w2.heap.size := (by have hzz := hb_w2.size; (try simp only [World.size_alloc, World.size_setCell, World.size_drew, World.heap_drewN] at hzz); omega); have hs_w2 := hb_w2.size; (try simp only [World.size_alloc, World.size_setCell, World.size_drew, World.heap_drewN] at hs_w2)
    go_wp2_with fail
    go_at_call 20
    refine (Q1.out _ _ _ (ho2.1.row.later (by repeat (first | exact Below.refl _ _ | assumption | (refine below_drewN ?_ _) | (refine Below.drew ?_) | (refine Below.alloc ?_ (by first | omega | (simp; omega) | simp) _) | (refine Below.setCell ?_ (by first | omega | (simp; omega) | simp) _) | (refine below_trans ?_ (by assumption) (by first | omega | (simp; omega) | simp)))))).mono ?_
    rintro e w3 ⟨rfl, hb_w3⟩
    obtain ⟨hc_w3, hf_w3⟩ := bcell hb_w3; have hz_w3_w_0 : w.heap.size < w3.heap.size := (by have hzz := hb_w3.size; (try simp only [World.size_alloc, World.size_setCell, World.size_drew, World.heap_drewN] at hzz); omega); have hz_w3_w2_0 : w2.heap.size < w3.heap.size := (by have hzz := hb_w3.size; (try simp only [World.size_alloc, World.size_setCell, World.size_drew, World.heap_drewN] at hzz); omega); have hs_w3 := hb_w3.size; (try simp only [World.size_alloc, World.size_setCell, World.size_drew, World.heap_drewN] at hs_w3)
    go_wp2_with fail
    go_at_call 20
    refine (Q2.out _ _ _ (hr.later (by repeat (first | exact Below.refl _ _ | assumption | (refine below_drewN ?_ _) | (refine Below.drew ?_) | (refine Below.alloc ?_ (by first | omega | (simp; omega) | simp) _) | (refine Below.setCell ?_ (by first | omega | (simp; omega) | simp) _) | (refine below_trans ?_ (by assumption) (by first | omega | (simp; omega) | simp)))))).mono ?_
    rintro e w4 ⟨rfl, hb_w4⟩
    obtain ⟨hc_w4, hf_w4⟩ := bcell hb_w4; have hz_w4_w_0 : w.heap.size < w4.heap.size := (by have hzz := hb_w4.size; (try simp only [World.size_alloc, World.size_setCell, World.size_drew, World.heap_drewN] at hzz); omega); have hz_w4_w2_0 : w2.heap.size < w4.heap.size := (by have hzz := hb_w4.size; (try simp only [World.size_alloc, World.size_setCell, World.size_drew, World.heap_drewN] at hzz); omega); have hs_w4 := hb_w4.size; (try simp only [World.size_alloc, World.size_setCell, World.size_drew, World.heap_drewN] at hs_w4)
    go_wp2_with fail
    go_at_call 20
    refine (Q3.out _ _ _ (ho2.1.row.later (by repeat (first | exact Below.refl _ _ | assumption | (refine below_drewN ?_ _) | (refine Below.drew ?_) | (refine Below.alloc ?_ (by first | omega | (simp; omega) | simp) _) | (refine Below.setCell ?_ (by first | omega | (simp; omega) | simp) _) | (refine below_trans ?_ (by assumption) (by first | omega | (simp; omega) | simp)))))).mono ?_
    rintro e w5 ⟨rfl, hb_w5⟩
    obtain ⟨hc_w5, hf_w5⟩ := bcell hb_w5; have hz_w5_w_0 : w.heap.size < w5.heap.size := (by have hzz := hb_w5.size; (try simp only [World.size_alloc, World.size_setCell, World.size_drew, World.heap_drewN] at hzz); omega); have hz_w5_w2_0 : w2.heap.size < w5.heap.size := (by have hzz := hb_w5.size; (try simp only [World.size_alloc, World.size_setCell, World.size_drew, World.heap_drewN] at hzz); omega); have hs_w5 := hb_w5.size; (try simp only [World.size_alloc, World.size_setCell, World.size_drew, World.heap_drewN] at hs_w5)
    go_wp2
    go_ret
    exact ⟨rfl, (by repeat (first | exact Below.refl _ _ | assumption | (refine below_drewN ?_ _) | (refine Below.drew ?_) | (refine Below.alloc ?_ (by first | omega | (simp; omega) | simp) _) | (refine Below.setCell ?_ (by first | omega | (simp; omega) | simp) _) | (refine below_trans ?_ (by assumption) (by first | omega | (simp; omega) | simp))))⟩
theorem arenaOne_walk (A : Option Addr) (cap : Nat) (ws : List Nat) (i v o : Nat) (w : World) (hr : Row w w.heap.size A ws) (hl : ws.length ≤ 17592186044416) (hi : i < W64) (hv : v < W64) (ho : o < W64) :
    Calls Try.prog 5 #[.agg #[.slice A ws.length cap], .int .u64 (i : Nat), .int .u64 (v : Nat), .int .u64 (o : Nat)] w fun e w' => e = .returned (.bool true) ∧ Below w.heap.size w w' := by
  by_cases h : ws.length ≤ 16384
  · by_cases ht : i + 1 ≤ ws.length
    · have hLs : (ws.set i v).length = ws.length := List.length_set
      have g1 : gotA (ws.set i v) i = v := by
        unfold gotA
        rw [hLs, if_pos h, if_pos ht]
        simp [show i < ws.length by omega]
      refine aone_ok i v o cap (ws.set i v) (gotA ws o) (gotA (ws.set i v) o) (errA ws (o + 1 ≤ ws.length)) hr h ?_
        (fun w A cap hr => (store_any cap i v hr hl hi hv).mono fun e w' hh => ?_) (fun w A cap hr => ?_) (fun w A cap hr => load_any cap o hr ho) (fun w A cap hr => ?_)
      · by_cases e : o = i
        · exact .inl (by simp [e])
        · refine .inr ⟨by simp; omega, ?_⟩
          have : gotA (ws.set i v) o = gotA ws o := by
            unfold gotA
            rw [hLs]
            simp only [List.getD_eq_getElem?_getD]
            rw [List.getElem?_set_ne (fun hh => e hh.symm)]
          rw [this]
          simp
      · rw [(resA_in (us := ws.set i v) h ht).1, (resA_in (us := ws.set i v) h ht).2] at hh
        exact hh.n hLs
      · have := load_n cap i _ hLs hr hi
        rwa [g1, errA_eq hLs, (resA_in (us := ws.set i v) h ht).2] at this
      · have := load_n cap o _ hLs hr ho
        rwa [errA_eq hLs] at this
    · exact aone_err i v o cap _ _ hr (by rw [(resA_out (us := ws.set i v) h ht).2]; decide) (fun w A cap hr => store_any cap i v hr hl hi hv)
  · exact aone_err i v o cap _ _ hr (by rw [(resA_bad (us := ws.set i v) (p := i + 1 ≤ ws.length) h).2]; decide) (fun w A cap hr => store_any cap i v hr hl hi hv)
theorem arenaOne_walkI (A : Option Addr) (cap : Nat) (ws : List Nat) (i v o : Int) (w : World) (hr : Row w w.heap.size A ws) (hl : ws.length ≤ 17592186044416) (hi : 0 ≤ i ∧ i ≤ 18446744073709551615) (hv : 0 ≤ v ∧ v ≤ 18446744073709551615) (ho : 0 ≤ o ∧ o ≤ 18446744073709551615) :
    Calls Try.prog 5 #[.agg #[.slice A ws.length cap], .int .u64 i, .int .u64 v, .int .u64 o] w fun e w' => e = .returned (.bool true) ∧ Below w.heap.size w w' := by
  obtain ⟨i, rfl⟩ := Int.eq_ofNat_of_zero_le hi.1
  obtain ⟨v, rfl⟩ := Int.eq_ofNat_of_zero_le hv.1
  obtain ⟨o, rfl⟩ := Int.eq_ofNat_of_zero_le ho.1
  exact arenaOne_walk A cap ws i v o w hr hl (by unfold W64; omega) (by unfold W64; omega) (by unfold W64; omega)
end Go.Proofs.Ytbhblffomlhopab
