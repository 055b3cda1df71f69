/- The walk of the law BitsOwn. -/
import Derived.Test.YtbhblffomlhopaaAsks
import Derived.Test.YtbhblffomlhopaaSpec2
import Derived.Deep.LoopGhost
namespace Go.Proofs.Ytbhblffomlhopaa
open Go.RowKit
set_option linter.unusedVariables false
set_option linter.unusedSimpArgs false

/-- three slices of a call's own, each with its own range of blocks -/
structure Three (w : World) (lo : Nat → Nat) (A : Nat → Option Addr) (L : Nat → Nat) : Prop where
  mono : lo 0 ≤ lo 1 ∧ lo 1 ≤ lo 2 ∧ lo 2 ≤ lo 3
  at_ : ∀ j, j < 3 → ∃ us, us.length = L j ∧ Own w (lo j) (A j) us ∧ ∀ g, A j = some ⟨g, 0, none⟩ → 0 < L j → g < lo (j + 1)
theorem Three.later {w w' : World} {lo : Nat → Nat} {A : Nat → Option Addr} {L : Nat → Nat} (h : Three w lo A L) (hb : Below w.heap.size w w') : Three w' lo A L :=
  ⟨h.mono, fun j hj => by
    obtain ⟨us, h1, h2, h3⟩ := h.at_ j hj
    exact ⟨us, h1, h2.later hb, h3⟩⟩
theorem Three.cell {w : World} {lo : Nat → Nat} {A : Nat → Option Addr} {L : Nat → Nat} (h : Three w lo A L) {i k : Nat} (hi : i < 3) (hk : k < L i) :
    ∃ g x, A i = some ⟨g, 0, none⟩ ∧ lo 0 ≤ g ∧ g < lo 3 ∧ g < w.heap.size ∧ x < W64 ∧ w.cell? ⟨g, k, none⟩ = some (.int .u64 (x : Nat)) ∧ w.frozen? ⟨g, k, none⟩ = false := by
  obtain ⟨us, h1, h2, h3⟩ := h.at_ i hi
  obtain ⟨g, e, g1, g2, g3⟩ := h2.at_ (by omega)
  have hm := h.mono
  have hg := h3 g e (by omega)
  refine ⟨g, _, e, ?_, ?_, g2, h2.words.at_ k, (g3 k (by omega)).1, (g3 k (by omega)).2⟩
  · have : i = 0 ∨ i = 1 ∨ i = 2 := by omega
    rcases this with rfl | rfl | rfl <;> omega
  · have : i = 0 ∨ i = 1 ∨ i = 2 := by omega
    rcases this with rfl | rfl | rfl <;> simp only [Nat.zero_add, Nat.reduceAdd] at hg <;> omega
theorem Three.set_ {w : World} {lo : Nat → Nat} {A : Nat → Option Addr} {L : Nat → Nat} (h : Three w lo A L) {i k g x : Nat} (hi : i < 3) (hk : k < L i) (hA : A i = some ⟨g, 0, none⟩) (hx : x < W64) : Three (w.setCell ⟨g, k, none⟩ (.int .u64 (x : Nat))) lo A L :=
  ⟨h.mono, fun j hj => by
    obtain ⟨us, h1, h2, h3⟩ := h.at_ j hj
    by_cases e : j = i
    · subst e
      exact ⟨us.set k x, by rw [List.length_set]; exact h1, h2.set_ hA (by omega) hx, h3⟩
    · refine ⟨us, h1, ?_, h3⟩
      by_cases h0 : 0 < us.length
      · obtain ⟨g', e', g1, g2, g3⟩ := h2.at_ h0
        obtain ⟨vs, k1, k2, k3⟩ := h.at_ i hi
        obtain ⟨g'', e'', m1, m2, m3⟩ := k2.at_ (by omega)
        rw [hA] at e''
        injection e'' with e''
        injection e'' with e''
        subst e''
        have hm := h.mono
        have a1 := h3 g' e' (by omega)
        have a2 := k3 g hA (by omega)
        refine h2.off e' ?_ _
        have : i = 0 ∨ i = 1 ∨ i = 2 := by omega
        have : j = 0 ∨ j = 1 ∨ j = 2 := by omega
        show g ≠ g'
        rcases ‹i = 0 ∨ i = 1 ∨ i = 2› with rfl | rfl | rfl <;> rcases ‹j = 0 ∨ j = 1 ∨ j = 2› with rfl | rfl | rfl <;> simp only [Nat.zero_add, Nat.reduceAdd] at a1 a2 <;> omega
      · exact ⟨h2.words, fun hl => absurd hl h0⟩⟩

/-- three bits in one block -/
structure Arr (w : World) (ga : Nat) (NN : Nat → Int) (AA : Nat → Option Addr) (L C : Nat → Nat) : Prop where
  lt : ga < w.heap.size
  c0 : ∀ j, j < 3 → w.cell? ⟨ga, j * 2, none⟩ = some (.int .i64 (NN j))
  c1 : ∀ j, j < 3 → w.cell? ⟨ga, j * 2 + 1, none⟩ = some (.slice (AA j) (L j) (C j))
theorem Arr.below {w w' : World} {B ga : Nat} {NN : Nat → Int} {AA : Nat → Option Addr} {L C : Nat → Nat} (h : Arr w ga NN AA L C) (hb : Below B w w') (hg : ga < B) : Arr w' ga NN AA L C :=
  ⟨Nat.lt_of_lt_of_le h.lt hb.size, fun j hj => ((bcell hb).1 _ _ hg).trans (h.c0 j hj), fun j hj => ((bcell hb).1 _ _ hg).trans (h.c1 j hj)⟩
theorem Arr.far {w : World} {ga : Nat} {NN : Nat → Int} {AA : Nat → Option Addr} {L C : Nat → Nat} (h : Arr w ga NN AA L C) {p : Addr} (hp : p.block ≠ ga) (u : Value) : Arr (w.setCell p u) ga NN AA L C :=
  ⟨by simpa using h.lt, fun j hj => (World.cell?_setCell_other _ _ _ _ (by rintro rfl; exact hp rfl)).trans (h.c0 j hj), fun j hj => (World.cell?_setCell_other _ _ _ _ (by rintro rfl; exact hp rfl)).trans (h.c1 j hj)⟩
def sel {α : Type} (a b c : α) (j : Nat) : α := match j with
  | 0 => a
  | 1 => b
  | _ => c

section
variable {N : Int} {A : Option Addr} {ws : List Nat} {w : World} (cap : Nat)
set_option maxHeartbeats 4000000 in
theorem own_core (i c why why' why'' N2 N3 N4 : Int) (u2 u3 u4 : List Nat) (hr : Row w w.heap.size A ws) (hl : ws.length ≤ 17592186044416) (hu2 : u2.length ≤ 64) (hu3 : u3.length ≤ 64) (hu4 : u4.length ≤ 64)
    (P : ∀ (w : World) (A : Option Addr) (cap : Nat), Row w w.heap.size A ws → Calls Try.prog 24 #[.agg #[.int .i64 N, .slice A ws.length cap], .int .i64 i, .bool true] w fun e w' => Fresh w N2 u2 why e w')
    (F : ∀ (w : World) (A : Option Addr) (cap : Nat), Row w w.heap.size A ws → Calls Try.prog 26 #[.agg #[.int .i64 N, .slice A ws.length cap], .int .i64 i, .int .i64 c, .bool true] w fun e w' => Fresh w N3 u3 why' e w')
    (B : ∀ (w : World) (A : Option Addr) (cap : Nat), Row w w.heap.size A ws → Calls Try.prog 35 #[.agg #[.int .i64 N, .slice A ws.length cap], .agg #[.int .i64 N, .slice A ws.length cap]] w fun e w' => Fresh w N4 u4 why'' e w') :
    Calls Try.prog 13 #[.agg #[.int .i64 N, .slice A ws.length cap], .int .i64 i, .int .i64 c] w fun e w' => e = .returned (.bool true) ∧ Below w.heap.size w w' := by
  have P1 := Lib.hid P
  have F1 := Lib.hid F
  have B1 := Lib.hid B
  clear P F B
  go_enter Try.func13, Try.ntmps13
  go_wp2_with fail
  go_at_call 17
  refine (puts_any _).mono ?_
  rintro e w1 ⟨rfl, hb_w1⟩
  obtain ⟨hc_w1, hf_w1⟩ := bcell hb_w1; have hz_w1_w_0 : w.heap.size < w1.heap.size := (by have hzz := hb_w1.size; (try simp only [World.size_alloc, World.size_setCell, World.size_drew, World.heap_drewN] at hzz); omega); have hs_w1 := hb_w1.size; (try simp only [World.size_alloc, World.size_setCell, World.size_drew, World.heap_drewN] at hs_w1)
  go_wp2_with fail
  go_at_call 34
  refine (asks_any _).mono ?_
  rintro e w2 ⟨rfl, hb_w2⟩
  obtain ⟨hc_w2, hf_w2⟩ := bcell hb_w2; have hz_w2_w_0 : w.heap.size < w2.heap.size := (by have hzz := hb_w2.size; (try simp only [World.size_alloc, World.size_setCell, World.size_drew, World.heap_drewN] at hzz); omega); have hs_w2 := hb_w2.size; (try simp only [World.size_alloc, World.size_setCell, World.size_drew, World.heap_drewN] at hs_w2)
  go_wp2_with fail
  go_at_call 21
  refine (copy_any _ _ (hr.later (by repeat (first | exact Below.refl _ _ | assumption | (refine below_drewN ?_ _) | (refine Below.drew ?_) | (refine Below.alloc ?_ (by first | omega | (simp; omega) | simp) _) | (refine Below.setCell ?_ (by first | omega | (simp; omega) | simp) _) | (refine below_trans ?_ (by assumption) (by first | omega | (simp; omega) | simp))))) hl).mono ?_
  rintro e w3 ⟨A3, cap3, rfl, ho3, hb_w3⟩
  obtain ⟨hc_w3, hf_w3⟩ := bcell hb_w3; have hz_w3_w_0 : w.heap.size < w3.heap.size := (by have hzz := hb_w3.size; (try simp only [World.size_alloc, World.size_setCell, World.size_drew, World.heap_drewN] at hzz); omega); have hs_w3 := hb_w3.size; (try simp only [World.size_alloc, World.size_setCell, World.size_drew, World.heap_drewN] at hs_w3)
  go_wp2_with fail
  go_at_call 24
  refine (P1.out _ _ _ (hr.later (by repeat (first | exact Below.refl _ _ | assumption | (refine below_drewN ?_ _) | (refine Below.drew ?_) | (refine Below.alloc ?_ (by first | omega | (simp; omega) | simp) _) | (refine Below.setCell ?_ (by first | omega | (simp; omega) | simp) _) | (refine below_trans ?_ (by assumption) (by first | omega | (simp; omega) | simp)))))).mono ?_
  rintro e w4 ⟨A4, cap4, rfl, ho4, hb_w4⟩
  obtain ⟨hc_w4, hf_w4⟩ := bcell hb_w4; have hz_w4_w_0 : w.heap.size < w4.heap.size := (by have hzz := hb_w4.size; (try simp only [World.size_alloc, World.size_setCell, World.size_drew, World.heap_drewN] at hzz); omega); have hz_w4_w3_0 : w3.heap.size < w4.heap.size := (by have hzz := hb_w4.size; (try simp only [World.size_alloc, World.size_setCell, World.size_drew, World.heap_drewN] at hzz); omega); have hs_w4 := hb_w4.size; (try simp only [World.size_alloc, World.size_setCell, World.size_drew, World.heap_drewN] at hs_w4)
  go_wp2_with fail
  go_at_call 26
  refine (F1.out _ _ _ (hr.later (by repeat (first | exact Below.refl _ _ | assumption | (refine below_drewN ?_ _) | (refine Below.drew ?_) | (refine Below.alloc ?_ (by first | omega | (simp; omega) | simp) _) | (refine Below.setCell ?_ (by first | omega | (simp; omega) | simp) _) | (refine below_trans ?_ (by assumption) (by first | omega | (simp; omega) | simp)))))).mono ?_
  rintro e w5 ⟨A5, cap5, rfl, ho5, hb_w5⟩
  obtain ⟨hc_w5, hf_w5⟩ := bcell hb_w5; have hz_w5_w_0 : w.heap.size < w5.heap.size := (by have hzz := hb_w5.size; (try simp only [World.size_alloc, World.size_setCell, World.size_drew, World.heap_drewN] at hzz); omega); have hz_w5_w3_0 : w3.heap.size < w5.heap.size := (by have hzz := hb_w5.size; (try simp only [World.size_alloc, World.size_setCell, World.size_drew, World.heap_drewN] at hzz); omega); have hz_w5_w4_0 : w4.heap.size < w5.heap.size := (by have hzz := hb_w5.size; (try simp only [World.size_alloc, World.size_setCell, World.size_drew, World.heap_drewN] at hzz); omega); have hs_w5 := hb_w5.size; (try simp only [World.size_alloc, World.size_setCell, World.size_drew, World.heap_drewN] at hs_w5)
  go_wp2_with fail
  go_at_call 35
  refine (B1.out _ _ _ (hr.later (by repeat (first | exact Below.refl _ _ | assumption | (refine below_drewN ?_ _) | (refine Below.drew ?_) | (refine Below.alloc ?_ (by first | omega | (simp; omega) | simp) _) | (refine Below.setCell ?_ (by first | omega | (simp; omega) | simp) _) | (refine below_trans ?_ (by assumption) (by first | omega | (simp; omega) | simp)))))).mono ?_
  rintro e w6 ⟨A6, cap6, rfl, ho6, hb_w6⟩
  obtain ⟨hc_w6, hf_w6⟩ := bcell hb_w6; have hz_w6_w_0 : w.heap.size < w6.heap.size := (by have hzz := hb_w6.size; (try simp only [World.size_alloc, World.size_setCell, World.size_drew, World.heap_drewN] at hzz); omega); have hz_w6_w3_0 : w3.heap.size < w6.heap.size := (by have hzz := hb_w6.size; (try simp only [World.size_alloc, World.size_setCell, World.size_drew, World.heap_drewN] at hzz); omega); have hz_w6_w4_0 : w4.heap.size < w6.heap.size := (by have hzz := hb_w6.size; (try simp only [World.size_alloc, World.size_setCell, World.size_drew, World.heap_drewN] at hzz); omega); have hz_w6_w5_0 : w5.heap.size < w6.heap.size := (by have hzz := hb_w6.size; (try simp only [World.size_alloc, World.size_setCell, World.size_drew, World.heap_drewN] at hzz); omega); have hs_w6 := hb_w6.size; (try simp only [World.size_alloc, World.size_setCell, World.size_drew, World.heap_drewN] at hs_w6)
  go_wp2_with fail
  have hA : Arr ((w6.alloc (.cells #[.int .i64 N4, .slice A6 u4.length cap6] 24)).alloc (.cells #[.int .i64 N2, .slice A4 u2.length cap4, .int .i64 N3, .slice A5 u3.length cap5, .int .i64 N4, .slice A6 u4.length cap6] 24)) (w6.heap.size + 1)
      (sel N2 N3 N4) (sel A4 A5 A6) (sel u2.length u3.length u4.length) (sel cap4 cap5 cap6) :=
    ⟨by simp, fun j hj => by
      have : j = 0 ∨ j = 1 ∨ j = 2 := by omega
      rcases this with rfl | rfl | rfl <;> simp [go_sem, sel], fun j hj => by
      have : j = 0 ∨ j = 1 ∨ j = 2 := by omega
      rcases this with rfl | rfl | rfl <;> simp [go_sem, sel]⟩
  have hT : Three w6 (fun j => match j with | 0 => w3.heap.size + 1 | 1 => w4.heap.size + 1 | 2 => w5.heap.size + 1 | _ => w6.heap.size) (sel A4 A5 A6) (sel u2.length u3.length u4.length) :=
    ⟨by simp only; omega, fun j hj => by
      have : j = 0 ∨ j = 1 ∨ j = 2 := by omega
      simp only [World.size_alloc] at ho4 ho5 ho6
      rcases this with rfl | rfl | rfl
      · exact ⟨u2, rfl, ho4.later (by repeat (first | exact Below.refl _ _ | assumption | (refine below_drewN ?_ _) | (refine Below.drew ?_) | (refine Below.alloc ?_ (by first | omega | (simp; omega) | simp) _) | (refine Below.setCell ?_ (by first | omega | (simp; omega) | simp) _) | (refine below_trans ?_ (by assumption) (by first | omega | (simp; omega) | simp)))), fun g e h0 => by
          obtain ⟨g', e', _, hlt, _⟩ := ho4.at_ h0
          rw [show sel A4 A5 A6 0 = A4 from rfl, e'] at e
          injection e with e
          injection e with e
          show g < w4.heap.size + 1
          omega⟩
      · exact ⟨u3, rfl, ho5.later (by repeat (first | exact Below.refl _ _ | assumption | (refine below_drewN ?_ _) | (refine Below.drew ?_) | (refine Below.alloc ?_ (by first | omega | (simp; omega) | simp) _) | (refine Below.setCell ?_ (by first | omega | (simp; omega) | simp) _) | (refine below_trans ?_ (by assumption) (by first | omega | (simp; omega) | simp)))), fun g e h0 => by
          obtain ⟨g', e', _, hlt, _⟩ := ho5.at_ h0
          rw [show sel A4 A5 A6 1 = A5 from rfl, e'] at e
          injection e with e
          injection e with e
          show g < w5.heap.size + 1
          omega⟩
      · exact ⟨u4, rfl, ho6, fun g e h0 => by
          obtain ⟨g', e', _, hlt, _⟩ := ho6.at_ h0
          rw [show sel A4 A5 A6 2 = A6 from rfl, e'] at e
          injection e with e
          injection e with e
          show g < w6.heap.size
          omega⟩⟩
  have hL : ∀ j, sel u2.length u3.length u4.length j ≤ 64 := fun j => by
    unfold sel
    split <;> assumption
  generalize sel N2 N3 N4 = NN at hA
  generalize sel A4 A5 A6 = AA at hA hT
  generalize sel u2.length u3.length u4.length = LL at hA hT hL
  generalize sel cap4 cap5 cap6 = CC at hA
  have HL := Lib.hid hL
  clear hL
  have hlo0 : (fun j => match j with | 0 => w3.heap.size + 1 | 1 => w4.heap.size + 1 | 2 => w5.heap.size + 1 | _ => w6.heap.size : Nat → Nat) 0 = w3.heap.size + 1 := rfl
  have hlo3 : (fun j => match j with | 0 => w3.heap.size + 1 | 1 => w4.heap.size + 1 | 2 => w5.heap.size + 1 | _ => w6.heap.size : Nat → Nat) 3 = w6.heap.size := rfl
  have HLO := Lib.hid (And.intro hlo0 hlo3)
  clear hlo0 hlo3
  generalize (fun j => match j with | 0 => w3.heap.size + 1 | 1 => w4.heap.size + 1 | 2 => w5.heap.size + 1 | _ => w6.heap.size : Nat → Nat) = lo at hT HLO
  have hb3 : Below (w3.heap.size + 1) (w3.alloc (.cells #[.int .i64 N, .slice A3 ws.length cap3] 24)) w6 := by
    simp only [World.size_alloc] at hb_w4
    exact (by repeat (first | exact Below.refl _ _ | assumption | (refine below_drewN ?_ _) | (refine Below.drew ?_) | (refine Below.alloc ?_ (by first | omega | (simp; omega) | simp) _) | (refine Below.setCell ?_ (by first | omega | (simp; omega) | simp) _) | (refine below_trans ?_ (by assumption) (by first | omega | (simp; omega) | simp))))
  have hbw3 : Below w.heap.size w w3 := (by repeat (first | exact Below.refl _ _ | assumption | (refine below_drewN ?_ _) | (refine Below.drew ?_) | (refine Below.alloc ?_ (by first | omega | (simp; omega) | simp) _) | (refine Below.setCell ?_ (by first | omega | (simp; omega) | simp) _) | (refine below_trans ?_ (by assumption) (by first | omega | (simp; omega) | simp))))
  have k0 : (w3.alloc (.cells #[.int .i64 N, .slice A3 ws.length cap3] 24)).cell? ⟨w.heap.size, 0, none⟩ = some (.int .i64 N) := (World.cell?_alloc_lt _ _ ⟨_, _, _⟩ (by first | omega | (simp; omega) | simp)).trans ((hc_w3 _ _ (by first | omega | (simp; omega) | simp)).trans ((hc_w2 _ _ (by first | omega | (simp; omega) | simp)).trans ((hc_w1 _ _ (by first | omega | (simp; omega) | simp)).trans (by simp [go_sem]))))
  have k1 : (w3.alloc (.cells #[.int .i64 N, .slice A3 ws.length cap3] 24)).cell? ⟨w.heap.size, 1, none⟩ = some (.slice A ws.length cap) := (World.cell?_alloc_lt _ _ ⟨_, _, _⟩ (by first | omega | (simp; omega) | simp)).trans ((hc_w3 _ _ (by first | omega | (simp; omega) | simp)).trans ((hc_w2 _ _ (by first | omega | (simp; omega) | simp)).trans ((hc_w1 _ _ (by first | omega | (simp; omega) | simp)).trans (by simp [go_sem]))))
  clear hc_w1 hf_w1 hc_w2 hf_w2 hc_w3 hf_w3 hc_w4 hf_w4 hc_w5 hf_w5 hc_w6 hf_w6
  go_loopw [49] (fun x wr => ∃ k : Nat, x = .int .i64 k ∧ k ≤ 3 ∧ Three wr lo AA LL ∧ Arr wr (w6.heap.size + 1) NN AA LL CC ∧ Below (w3.heap.size + 1) (w3.alloc (.cells #[.int .i64 N, .slice A3 ws.length cap3] 24)) wr) (fun x _ => 3 - (intOf x).toNat)
  case atStart => exact ⟨0, rfl, by omega, hT.later (by repeat (first | exact Below.refl _ _ | assumption | (refine below_drewN ?_ _) | (refine Below.drew ?_) | (refine Below.alloc ?_ (by first | omega | (simp; omega) | simp) _) | (refine Below.setCell ?_ (by first | omega | (simp; omega) | simp) _) | (refine below_trans ?_ (by assumption) (by first | omega | (simp; omega) | simp)))), hA, (by repeat (first | exact Below.refl _ _ | assumption | (refine below_drewN ?_ _) | (refine Below.drew ?_) | (refine Below.alloc ?_ (by first | omega | (simp; omega) | simp) _) | (refine Below.setCell ?_ (by first | omega | (simp; omega) | simp) _) | (refine below_trans ?_ (by assumption) (by first | omega | (simp; omega) | simp))))⟩
  case round =>
    obtain ⟨k, rfl, hk, hT1, hA1, hb_wr⟩ := hrel
    obtain ⟨wo, rfl⟩ : ∃ wo : World, wo = wr := ⟨_, rfl⟩
    by_cases hlt : k < 3
    · have a0 := hA1.c0 k hlt
      have a1 := hA1.c1 k hlt
      have a2 := hA1.lt
      have h64 := HL.out k
      generalize hLk : LL k = lk at a1 h64
      generalize hNk : NN k = nk at a0
      generalize hAk : AA k = ak at a1
      generalize hCk : CC k = ck at a1
      have HLk := Lib.hid hLk
      have HAk := Lib.hid hAk
      clear hLk hNk hAk hCk
      go_wp2_with fail
      have t0 : Two (wo.alloc (.cells #[.int .i64 nk, .slice ak lk ck] 24)) wo.heap.size (.int .i64 nk) (.slice ak lk ck) := Two.new _ _ _ _
      have hbo := hb_wr.size
      simp only [World.size_alloc] at hbo
      go_loopw [56] (fun y wi => ∃ l : Nat, y = .int .i64 l ∧ l ≤ lk ∧ Three wi lo AA LL ∧ Arr wi (w6.heap.size + 1) NN AA LL CC ∧ Two wi wo.heap.size (.int .i64 nk) (.slice ak lk ck) ∧ wo.heap.size < wi.heap.size ∧ Below (w3.heap.size + 1) (w3.alloc (.cells #[.int .i64 N, .slice A3 ws.length cap3] 24)) wi) (fun y _ => lk - (intOf y).toNat)
      case atStart => exact ⟨0, rfl, Nat.zero_le _, hT1.later (by repeat (first | exact Below.refl _ _ | assumption | (refine below_drewN ?_ _) | (refine Below.drew ?_) | (refine Below.alloc ?_ (by first | omega | (simp; omega) | simp) _) | (refine Below.setCell ?_ (by first | omega | (simp; omega) | simp) _) | (refine below_trans ?_ (by assumption) (by first | omega | (simp; omega) | simp)))), hA1.below ((Below.refl wo.heap.size wo).alloc (Nat.le_refl _) _) a2, t0, by simp, hb_wr.alloc (by first | omega | (simp; omega) | simp) _⟩
      case round =>
        obtain ⟨l, rfl, hl1, hT2, hA2, hW2, hsz, hb_wi⟩ := hrel
        obtain ⟨y0, y1, yf⟩ := id hW2
        by_cases hll : l < lk
        · obtain ⟨g, x, eA, g1, g2, g3, hx, hcx, hfx⟩ := hT2.cell (i := k) (k := l) hlt (by rw [HLk.out]; exact hll)
          obtain rfl : ak = some ⟨g, 0, none⟩ := HAk.out.symm.trans eA
          rw [HLO.out.1] at g1
          rw [HLO.out.2] at g2
          have HEA := Lib.hid eA
          have hX : bits .xor .u64 (x : Int) 5 = ((x ^^^ 5 : Nat) : Int) := u64_xor_nat x 5 hx (by omega)
          have hx5 : x ^^^ 5 < W64 := by rw [W64_eq] at *; exact Nat.xor_lt_two_pow hx (by omega)
          clear eA
          go_wp2
          go_roundw
          case rel => exact ⟨l + 1, by go_num, by omega, hT2.set_ hlt (by rw [HLk.out]; exact hll) HEA.out hx5, hA2.far (p := ⟨g, l, none⟩) (by first | omega | (simp; omega) | simp) _,
            ⟨(World.cell?_setCell_other _ _ _ _ (by intro e; injection e; omega)).trans y0, (World.cell?_setCell_other _ _ _ _ (by intro e; injection e; omega)).trans y1, fun i => by rw [World.frozen?_setCell]; exact yf i⟩, by simpa using hsz, hb_wi.setCell (p := ⟨g, l, none⟩) g1 _⟩
          case measure => simp [intOf]; omega
        · go_wp2
          go_roundw
          case rel => exact ⟨k + 1, by go_num, by omega, hT2, hA2, hb_wi⟩
          case measure => simp [intOf]; omega
    · have z0 := ((bcell hb_wr).1 _ 0 (by omega)).trans k0
      have z1 := ((bcell hb_wr).1 _ 1 (by omega)).trans k1
      have t3 := (Two.new w3 (.int .i64 N) (.slice A3 ws.length cap3) 24).below hb_wr (by omega)
      obtain ⟨x0, x1, _⟩ := id t3
      have hzz := hb_wr.size
      simp only [World.size_alloc] at hzz
      have hm : ws.length ≤ maxLen := by unfold maxLen; omega
      have hrw : Row wo wo.heap.size A ws := hr.later (below_trans (hbw3.alloc (by first | omega | (simp; omega) | simp) _) hb_wr (by first | omega | (simp; omega) | simp))
      have hrk : Row wo wo.heap.size A3 ws := (ho3.later ((Below.refl w3.heap.size w3).alloc (Nat.le_refl _) _)).row.later (by rw [World.size_alloc]; exact hb_wr)
      have hbf : Below w.heap.size w wo := below_trans (hbw3.alloc (by first | omega | (simp; omega) | simp) _) hb_wr (by first | omega | (simp; omega) | simp)
      go_wp2_with fail
      go_at_call 18
      refine (same_ok N ws hm _ _ _ _ _ hrw hrk).mono ?_
      rintro e w9 ⟨rfl, hb_w9⟩
      obtain ⟨hc_w9, hf_w9⟩ := bcell hb_w9; have hs_w9 := hb_w9.size; (try simp only [World.size_alloc, World.size_setCell, World.size_drew, World.heap_drewN] at hs_w9)
      go_wp2
      go_ret
      exact ⟨rfl, (by repeat (first | exact Below.refl _ _ | assumption | (refine below_drewN ?_ _) | (refine Below.drew ?_) | (refine Below.alloc ?_ (by first | omega | (simp; omega) | simp) _) | (refine Below.setCell ?_ (by first | omega | (simp; omega) | simp) _) | (refine below_trans ?_ (by assumption) (by first | omega | (simp; omega) | simp))))⟩
end

theorem both_one (n : Int) (ws : List Nat) : ∃ (N : Int) (vs : List Nat) (why : Int), (∀ (w : World) (A : Option Addr) (cap : Nat), Row w w.heap.size A ws → Calls Try.prog 35 #[.agg #[.int .i64 n, .slice A ws.length cap], .agg #[.int .i64 n, .slice A ws.length cap]] w fun e w' => Fresh w N vs why e w') ∧ vs.length ≤ 64 := by
  obtain ⟨N, vs, why, h1, _, h3⟩ := both_both n n ws ws
  exact ⟨N, vs, why, fun w A cap hr => h1 w A A cap cap hr hr, h3⟩

theorem bitsOwn_walk (N : Int) (A : Option Addr) (cap : Nat) (ws : List Nat) (i c : Int) (w : World) (hr : Row w w.heap.size A ws) (hl : ws.length ≤ 17592186044416) (h63 : i ≤ 9223372036854775807) :
    Calls Try.prog 13 #[.agg #[.int .i64 N, .slice A ws.length cap], .int .i64 i, .int .i64 c] w fun e w' => e = .returned (.bool true) ∧ Below w.heap.size w w' := by
  obtain ⟨N2, u2, y2, p1, _, p3⟩ := put_both N i true ws h63
  obtain ⟨N3, u3, y3, f1, _, f3⟩ := fill_both N i c true ws h63
  obtain ⟨N4, u4, y4, b1, b3⟩ := both_one N ws
  exact own_core cap i c y2 y3 y4 N2 N3 N4 u2 u3 u4 hr hl p3 f3 b3 p1 f1 b1
end Go.Proofs.Ytbhblffomlhopaa
