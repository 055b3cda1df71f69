/- The document's Make of spans. -/
import Derived.Test.YthphefoohkofbaaMF
namespace Go.Proofs.Ythphefoohkofbaa
open Go.RowKit
set_option linter.unusedVariables false
set_option linter.unusedSimpArgs false

theorem xmany2_any {w : World} {z : Int} (h0 : 0 < z) (h1 : z ≤ 16) : Calls Try.prog 38 #[.int .i64 z] w fun e w' => e = .returned (.int .i64 (16 / z)) ∧ w = w' := by
  have : z = 1 ∨ z = 2 ∨ z = 3 ∨ z = 4 ∨ z = 5 ∨ z = 6 ∨ z = 7 ∨ z = 8 ∨ z = 9 ∨ z = 10 ∨ z = 11 ∨ z = 12 ∨ z = 13 ∨ z = 14 ∨ z = 15 ∨ z = 16 := by omega
  clear h0 h1
  rcases this with rfl | rfl | rfl | rfl | rfl | rfl | rfl | rfl | rfl | rfl | rfl | rfl | rfl | rfl | rfl | rfl
  all_goals
    go_enter Try.func38, Try.ntmps38
    go_wp2
    go_ret
    exact ⟨rfl, rfl⟩
theorem ok1_newSd {f p z : Int} (h1 : Sized p z) (h2 : Placed f p) : Ok1 (newSd f p z) := by
  have hs := h1.slots
  have hr := right_wordsN (slotsOf z) (by omega) (by omega)
  exact ⟨h1, h2, hr, rfl, hr, rfl, fun i _ h => h⟩
section
variable {w : World} (f p z : Int)
set_option maxHeartbeats 4000000 in
theorem xmake_any (n : Int) (ws : List Nat) (hws : wordsN n = ws) (hn : (¬ (0 < z ∧ z ≤ 16) ∧ n = 1) ∨ (0 < z ∧ z ≤ 16 ∧ n = 16 / z)) (b : Bool) (hb : b = true ↔ Ok1 ⟨f, p, z, n, ws, n, ws, true⟩) :
    Calls Try.prog 12 #[.int .i64 f, .int .i64 p, .int .i64 z] w fun e w' => FreshS w (cond b ⟨f, p, z, n, ws, n, ws, true⟩ sd0) (cond b 0 2) e w' := by
  have hnb : 0 ≤ n ∧ n ≤ 16 := by
    rcases hn with ⟨_, rfl⟩ | ⟨h1, h2, rfl⟩
    · omega
    · exact ⟨Int.ediv_nonneg (by omega) (by omega), Int.ediv_le_self _ (by omega)⟩
  have K := Lib.hid fun (w : World) => rmake_ok n w (by omega) (by omega)
  have HRT := Lib.hid fun (w : World) (A M : Option Addr) (ca cm : Nat) ha hm => xright_any (w := w) (A := A) (M := M) ca cm ⟨f, p, z, n, ws, n, ws, true⟩ ha hm b hb
  unfold FreshS
  unfold Fresh at K
  rw [hws] at K
  unfold spv at HRT ⊢
  simp only at HRT
  have H16 := Lib.hid hnb
  have go : ∀ (P : Prop), P → P := fun _ h => h
  by_cases hz : 0 < z
  · have d1 : decide (0 < z) = true := decide_eq_true hz
    by_cases hz2 : z ≤ 16
    · have d2 : decide (z ≤ 16) = true := decide_eq_true hz2
      have HMY := Lib.hid fun (w : World) => xmany2_any (w := w) hz hz2
      obtain rfl : n = 16 / z := by
        rcases hn with ⟨h, _⟩ | ⟨_, _, h⟩
        · exact absurd ⟨hz, hz2⟩ h
        · exact h
      generalize 16 / z = n at *
      clear hn hb hnb hz hz2 hws
      go_enter Try.func12, Try.ntmps12
      go_wp2_with fail
      go_at_call 38
      refine (HMY.out _).mono ?_
      rintro e w0 ⟨rfl, rfl⟩
      go_wp2_with fail
      go_at_call 39
      refine (K.out _).mono ?_
      rintro e w2 ⟨A2, c2, rfl, o2, hb_w2⟩
      obtain ⟨hc_w2, hf_w2⟩ := bcell hb_w2
      have hs2 := hb_w2.size
      (try simp only [World.size_alloc] at hs2)
      have b2 : Below w.heap.size w w2 := (by repeat (first | exact Below.refl _ _ | assumption | (refine below_drewN ?_ _) | (refine Below.drew ?_) | (refine Below.alloc ?_ (by first | omega | (simp; omega) | simp) _) | (refine Below.setCell ?_ (by first | omega | (simp; omega) | simp) _) | (refine below_trans ?_ (by assumption) (by first | omega | (simp; omega) | simp))))
      have Y2 : Sp8 w2 w.heap.size 0 sd0 none 0 none 0 := by constructor <;> exact (hc_w2 _ _ (by first | omega | (simp; omega) | simp)).trans (by simp [go_sem, sd0])
      have y2 : ∀ i, w2.frozen? ⟨w.heap.size, i, none⟩ = false := fun i => (hf_w2 _ _ (by first | omega | (simp; omega) | simp)).trans (by simp [go_sem])
      have o2' : Own w2 (w.heap.size + 1) A2 ws := o2.mono (by first | omega | (simp; omega) | simp)
      clear hc_w2 hf_w2 o2 hb_w2
      go_wp2_with fail
      go_at_call 39
      refine (K.out _).mono ?_
      rintro e w3 ⟨A3, c3, rfl, o3, hb_w3⟩
      obtain ⟨hc_w3, hf_w3⟩ := bcell hb_w3
      have hs3 := hb_w3.size
      (try simp only [World.size_alloc] at hs3)
      have c23 : Below w2.heap.size w2 w3 := (by repeat (first | exact Below.refl _ _ | assumption | (refine below_drewN ?_ _) | (refine Below.drew ?_) | (refine Below.alloc ?_ (by first | omega | (simp; omega) | simp) _) | (refine Below.setCell ?_ (by first | omega | (simp; omega) | simp) _) | (refine below_trans ?_ (by assumption) (by first | omega | (simp; omega) | simp))))
      have b3 : Below w.heap.size w w3 := b2.trans (c23.mono (by omega))
      have Y3 := Y2.below c23 (by omega)
      have y3 : ∀ i, w3.frozen? ⟨w.heap.size, i, none⟩ = false := fun i => ((bcell c23).2 _ _ (by show w.heap.size < _; omega)).trans (y2 i)
      have o2'' := o2'.later c23
      have o3' : Own w3 (w.heap.size + 1) A3 ws := o3.mono (by first | omega | (simp; omega) | simp)
      have q0 : w3.cell? ⟨w2.heap.size, 0, none⟩ = some (.int .i64 n) := (hc_w3 _ _ (by first | omega | (simp; omega) | simp)).trans (by simp [go_sem])
      have q1 : w3.cell? ⟨w2.heap.size, 1, none⟩ = some (.slice A2 ws.length c2) := (hc_w3 _ _ (by first | omega | (simp; omega) | simp)).trans (by simp [go_sem])
      have l23 : w2.heap.size < w3.heap.size := by omega
      clear hc_w3 hf_w3 Y2 y2 o2' o3 hb_w3
      go_wp2_with fail
      go_at_call 40
      refine (HRT.out _ A2 A3 c2 c3 (o2''.row.later (by repeat (first | exact Below.refl _ _ | assumption | (refine below_drewN ?_ _) | (refine Below.drew ?_) | (refine Below.alloc ?_ (by first | omega | (simp; omega) | simp) _) | (refine Below.setCell ?_ (by first | omega | (simp; omega) | simp) _) | (refine below_trans ?_ (by assumption) (by first | omega | (simp; omega) | simp))))) (o3'.row.later (by repeat (first | exact Below.refl _ _ | assumption | (refine below_drewN ?_ _) | (refine Below.drew ?_) | (refine Below.alloc ?_ (by first | omega | (simp; omega) | simp) _) | (refine Below.setCell ?_ (by first | omega | (simp; omega) | simp) _) | (refine below_trans ?_ (by assumption) (by first | omega | (simp; omega) | simp)))))).mono ?_
      rintro e w4 ⟨rfl, hb_w4⟩
      obtain ⟨hc_w4, hf_w4⟩ := bcell hb_w4
      have hs4 := hb_w4.size
      (try simp only [World.size_alloc] at hs4)
      have c34 : Below w3.heap.size w3 w4 := (by repeat (first | exact Below.refl _ _ | assumption | (refine below_drewN ?_ _) | (refine Below.drew ?_) | (refine Below.alloc ?_ (by first | omega | (simp; omega) | simp) _) | (refine Below.setCell ?_ (by first | omega | (simp; omega) | simp) _) | (refine below_trans ?_ (by assumption) (by first | omega | (simp; omega) | simp))))
      have b4 : Below w.heap.size w w4 := b3.trans (c34.mono (by omega))
      have Y4 := Y3.below c34 (by omega)
      have y4 : ∀ i, w4.frozen? ⟨w.heap.size, i, none⟩ = false := fun i => ((bcell c34).2 _ _ (by show w.heap.size < _; omega)).trans (y3 i)
      have o2 := o2''.later c34
      have o3 := o3'.later c34
      have p0 : w4.cell? ⟨w3.heap.size + 1, 0, none⟩ = some (.int .i64 f) := (hc_w4 _ _ (by first | omega | (simp; omega) | simp)).trans (by simp [go_sem])
      have p1 : w4.cell? ⟨w3.heap.size + 1, 1, none⟩ = some (.int .i64 p) := (hc_w4 _ _ (by first | omega | (simp; omega) | simp)).trans (by simp [go_sem])
      have p2 : w4.cell? ⟨w3.heap.size + 1, 2, none⟩ = some (.int .i64 z) := (hc_w4 _ _ (by first | omega | (simp; omega) | simp)).trans (by simp [go_sem])
      have p3 : w4.cell? ⟨w3.heap.size + 1, 3, none⟩ = some (.int .i64 n) := (hc_w4 _ _ (by first | omega | (simp; omega) | simp)).trans (by simp [go_sem])
      have p4 : w4.cell? ⟨w3.heap.size + 1, 4, none⟩ = some (.slice A2 ws.length c2) := (hc_w4 _ _ (by first | omega | (simp; omega) | simp)).trans (by simp [go_sem])
      have p5 : w4.cell? ⟨w3.heap.size + 1, 5, none⟩ = some (.int .i64 n) := (hc_w4 _ _ (by first | omega | (simp; omega) | simp)).trans (by simp [go_sem])
      have p6 : w4.cell? ⟨w3.heap.size + 1, 6, none⟩ = some (.slice A3 ws.length c3) := (hc_w4 _ _ (by first | omega | (simp; omega) | simp)).trans (by simp [go_sem])
      have p7 : w4.cell? ⟨w3.heap.size + 1, 7, none⟩ = some (.bool true) := (hc_w4 _ _ (by first | omega | (simp; omega) | simp)).trans (by simp [go_sem])
      have v0 := y4 0
      have v1 := y4 1
      have v2 := y4 2
      have v3 := y4 3
      have v4 := y4 4
      have v5 := y4 5
      have v6 := y4 6
      have v7 := y4 7
      clear hc_w4 hf_w4 Y3 y3 o2'' o3' hb_w4 q0 q1
      obtain ⟨x0, x1, x2, x3, x4, x5, x6, x7⟩ := id Y4
      simp only [Nat.zero_add] at x0 x1 x2 x3 x4 x5 x6 x7
      cases b
      · go_wp2
        refine bodyPost_ret (res_span rfl rfl (Y4.set (d' := sd0) (A' := none) (ca' := 0) (M' := none) (cm' := 0))) rfl ⟨none, 0, none, 0, rfl, Own.nil _ _, Own.nil _ _, ?_⟩
        iterate 8 (refine Below.setCell ?_ (by first | omega | (simp; omega) | simp) _)
        exact b4
      · go_wp2
        refine bodyPost_ret (res_span rfl rfl (Y4.set (d' := ⟨f, p, z, n, ws, n, ws, true⟩) (A' := A2) (ca' := c2) (M' := A3) (cm' := c3))) rfl ⟨A2, c2, A3, c3, rfl, ?_, ?_, ?_⟩
        · refine Own.mono (B := w.heap.size + 1) ?_ (by first | omega | (simp; omega) | simp)
          iterate 8 (refine Own.far ?_ (.inl (by first | omega | (simp; omega) | simp)) _)
          exact o2
        · refine Own.mono (B := w.heap.size + 1) ?_ (by first | omega | (simp; omega) | simp)
          iterate 8 (refine Own.far ?_ (.inl (by first | omega | (simp; omega) | simp)) _)
          exact o3
        · iterate 8 (refine Below.setCell ?_ (by first | omega | (simp; omega) | simp) _)
          exact b4
    · have d2 : decide (z ≤ 16) = false := decide_eq_false hz2
      obtain rfl : n = 1 := by
        rcases hn with ⟨_, h⟩ | ⟨_, h, _⟩
        · exact h
        · exact absurd h hz2
      clear hn hb hnb hz hz2 hws
      go_enter Try.func12, Try.ntmps12
      go_wp2_with fail
      go_at_call 39
      refine (K.out _).mono ?_
      rintro e w2 ⟨A2, c2, rfl, o2, hb_w2⟩
      obtain ⟨hc_w2, hf_w2⟩ := bcell hb_w2
      have hs2 := hb_w2.size
      (try simp only [World.size_alloc] at hs2)
      have b2 : Below w.heap.size w w2 := (by repeat (first | exact Below.refl _ _ | assumption | (refine below_drewN ?_ _) | (refine Below.drew ?_) | (refine Below.alloc ?_ (by first | omega | (simp; omega) | simp) _) | (refine Below.setCell ?_ (by first | omega | (simp; omega) | simp) _) | (refine below_trans ?_ (by assumption) (by first | omega | (simp; omega) | simp))))
      have Y2 : Sp8 w2 w.heap.size 0 sd0 none 0 none 0 := by constructor <;> exact (hc_w2 _ _ (by first | omega | (simp; omega) | simp)).trans (by simp [go_sem, sd0])
      have y2 : ∀ i, w2.frozen? ⟨w.heap.size, i, none⟩ = false := fun i => (hf_w2 _ _ (by first | omega | (simp; omega) | simp)).trans (by simp [go_sem])
      have o2' : Own w2 (w.heap.size + 1) A2 ws := o2.mono (by first | omega | (simp; omega) | simp)
      clear hc_w2 hf_w2 o2 hb_w2
      go_wp2_with fail
      go_at_call 39
      refine (K.out _).mono ?_
      rintro e w3 ⟨A3, c3, rfl, o3, hb_w3⟩
      obtain ⟨hc_w3, hf_w3⟩ := bcell hb_w3
      have hs3 := hb_w3.size
      (try simp only [World.size_alloc] at hs3)
      have c23 : Below w2.heap.size w2 w3 := (by repeat (first | exact Below.refl _ _ | assumption | (refine below_drewN ?_ _) | (refine Below.drew ?_) | (refine Below.alloc ?_ (by first | omega | (simp; omega) | simp) _) | (refine Below.setCell ?_ (by first | omega | (simp; omega) | simp) _) | (refine below_trans ?_ (by assumption) (by first | omega | (simp; omega) | simp))))
      have b3 : Below w.heap.size w w3 := b2.trans (c23.mono (by omega))
      have Y3 := Y2.below c23 (by omega)
      have y3 : ∀ i, w3.frozen? ⟨w.heap.size, i, none⟩ = false := fun i => ((bcell c23).2 _ _ (by show w.heap.size < _; omega)).trans (y2 i)
      have o2'' := o2'.later c23
      have o3' : Own w3 (w.heap.size + 1) A3 ws := o3.mono (by first | omega | (simp; omega) | simp)
      have q0 : w3.cell? ⟨w2.heap.size, 0, none⟩ = some (.int .i64 1) := (hc_w3 _ _ (by first | omega | (simp; omega) | simp)).trans (by simp [go_sem])
      have q1 : w3.cell? ⟨w2.heap.size, 1, none⟩ = some (.slice A2 ws.length c2) := (hc_w3 _ _ (by first | omega | (simp; omega) | simp)).trans (by simp [go_sem])
      have l23 : w2.heap.size < w3.heap.size := by omega
      clear hc_w3 hf_w3 Y2 y2 o2' o3 hb_w3
      go_wp2_with fail
      go_at_call 40
      refine (HRT.out _ A2 A3 c2 c3 (o2''.row.later (by repeat (first | exact Below.refl _ _ | assumption | (refine below_drewN ?_ _) | (refine Below.drew ?_) | (refine Below.alloc ?_ (by first | omega | (simp; omega) | simp) _) | (refine Below.setCell ?_ (by first | omega | (simp; omega) | simp) _) | (refine below_trans ?_ (by assumption) (by first | omega | (simp; omega) | simp))))) (o3'.row.later (by repeat (first | exact Below.refl _ _ | assumption | (refine below_drewN ?_ _) | (refine Below.drew ?_) | (refine Below.alloc ?_ (by first | omega | (simp; omega) | simp) _) | (refine Below.setCell ?_ (by first | omega | (simp; omega) | simp) _) | (refine below_trans ?_ (by assumption) (by first | omega | (simp; omega) | simp)))))).mono ?_
      rintro e w4 ⟨rfl, hb_w4⟩
      obtain ⟨hc_w4, hf_w4⟩ := bcell hb_w4
      have hs4 := hb_w4.size
      (try simp only [World.size_alloc] at hs4)
      have c34 : Below w3.heap.size w3 w4 := (by repeat (first | exact Below.refl _ _ | assumption | (refine below_drewN ?_ _) | (refine Below.drew ?_) | (refine Below.alloc ?_ (by first | omega | (simp; omega) | simp) _) | (refine Below.setCell ?_ (by first | omega | (simp; omega) | simp) _) | (refine below_trans ?_ (by assumption) (by first | omega | (simp; omega) | simp))))
      have b4 : Below w.heap.size w w4 := b3.trans (c34.mono (by omega))
      have Y4 := Y3.below c34 (by omega)
      have y4 : ∀ i, w4.frozen? ⟨w.heap.size, i, none⟩ = false := fun i => ((bcell c34).2 _ _ (by show w.heap.size < _; omega)).trans (y3 i)
      have o2 := o2''.later c34
      have o3 := o3'.later c34
      have p0 : w4.cell? ⟨w3.heap.size + 1, 0, none⟩ = some (.int .i64 f) := (hc_w4 _ _ (by first | omega | (simp; omega) | simp)).trans (by simp [go_sem])
      have p1 : w4.cell? ⟨w3.heap.size + 1, 1, none⟩ = some (.int .i64 p) := (hc_w4 _ _ (by first | omega | (simp; omega) | simp)).trans (by simp [go_sem])
      have p2 : w4.cell? ⟨w3.heap.size + 1, 2, none⟩ = some (.int .i64 z) := (hc_w4 _ _ (by first | omega | (simp; omega) | simp)).trans (by simp [go_sem])
      have p3 : w4.cell? ⟨w3.heap.size + 1, 3, none⟩ = some (.int .i64 1) := (hc_w4 _ _ (by first | omega | (simp; omega) | simp)).trans (by simp [go_sem])
      have p4 : w4.cell? ⟨w3.heap.size + 1, 4, none⟩ = some (.slice A2 ws.length c2) := (hc_w4 _ _ (by first | omega | (simp; omega) | simp)).trans (by simp [go_sem])
      have p5 : w4.cell? ⟨w3.heap.size + 1, 5, none⟩ = some (.int .i64 1) := (hc_w4 _ _ (by first | omega | (simp; omega) | simp)).trans (by simp [go_sem])
      have p6 : w4.cell? ⟨w3.heap.size + 1, 6, none⟩ = some (.slice A3 ws.length c3) := (hc_w4 _ _ (by first | omega | (simp; omega) | simp)).trans (by simp [go_sem])
      have p7 : w4.cell? ⟨w3.heap.size + 1, 7, none⟩ = some (.bool true) := (hc_w4 _ _ (by first | omega | (simp; omega) | simp)).trans (by simp [go_sem])
      have v0 := y4 0
      have v1 := y4 1
      have v2 := y4 2
      have v3 := y4 3
      have v4 := y4 4
      have v5 := y4 5
      have v6 := y4 6
      have v7 := y4 7
      clear hc_w4 hf_w4 Y3 y3 o2'' o3' hb_w4 q0 q1
      obtain ⟨x0, x1, x2, x3, x4, x5, x6, x7⟩ := id Y4
      simp only [Nat.zero_add] at x0 x1 x2 x3 x4 x5 x6 x7
      cases b
      · go_wp2
        refine bodyPost_ret (res_span rfl rfl (Y4.set (d' := sd0) (A' := none) (ca' := 0) (M' := none) (cm' := 0))) rfl ⟨none, 0, none, 0, rfl, Own.nil _ _, Own.nil _ _, ?_⟩
        iterate 8 (refine Below.setCell ?_ (by first | omega | (simp; omega) | simp) _)
        exact b4
      · go_wp2
        refine bodyPost_ret (res_span rfl rfl (Y4.set (d' := ⟨f, p, z, 1, ws, 1, ws, true⟩) (A' := A2) (ca' := c2) (M' := A3) (cm' := c3))) rfl ⟨A2, c2, A3, c3, rfl, ?_, ?_, ?_⟩
        · refine Own.mono (B := w.heap.size + 1) ?_ (by first | omega | (simp; omega) | simp)
          iterate 8 (refine Own.far ?_ (.inl (by first | omega | (simp; omega) | simp)) _)
          exact o2
        · refine Own.mono (B := w.heap.size + 1) ?_ (by first | omega | (simp; omega) | simp)
          iterate 8 (refine Own.far ?_ (.inl (by first | omega | (simp; omega) | simp)) _)
          exact o3
        · iterate 8 (refine Below.setCell ?_ (by first | omega | (simp; omega) | simp) _)
          exact b4
  · have d1 : decide (0 < z) = false := decide_eq_false hz
    obtain rfl : n = 1 := by
      rcases hn with ⟨_, h⟩ | ⟨h, _, _⟩
      · exact h
      · exact absurd h hz
    clear hn hb hnb hz hws
    go_enter Try.func12, Try.ntmps12
    go_wp2_with fail
    go_at_call 39
    refine (K.out _).mono ?_
    rintro e w2 ⟨A2, c2, rfl, o2, hb_w2⟩
    obtain ⟨hc_w2, hf_w2⟩ := bcell hb_w2
    have hs2 := hb_w2.size
    (try simp only [World.size_alloc] at hs2)
    have b2 : Below w.heap.size w w2 := (by repeat (first | exact Below.refl _ _ | assumption | (refine below_drewN ?_ _) | (refine Below.drew ?_) | (refine Below.alloc ?_ (by first | omega | (simp; omega) | simp) _) | (refine Below.setCell ?_ (by first | omega | (simp; omega) | simp) _) | (refine below_trans ?_ (by assumption) (by first | omega | (simp; omega) | simp))))
    have Y2 : Sp8 w2 w.heap.size 0 sd0 none 0 none 0 := by constructor <;> exact (hc_w2 _ _ (by first | omega | (simp; omega) | simp)).trans (by simp [go_sem, sd0])
    have y2 : ∀ i, w2.frozen? ⟨w.heap.size, i, none⟩ = false := fun i => (hf_w2 _ _ (by first | omega | (simp; omega) | simp)).trans (by simp [go_sem])
    have o2' : Own w2 (w.heap.size + 1) A2 ws := o2.mono (by first | omega | (simp; omega) | simp)
    clear hc_w2 hf_w2 o2 hb_w2
    go_wp2_with fail
    go_at_call 39
    refine (K.out _).mono ?_
    rintro e w3 ⟨A3, c3, rfl, o3, hb_w3⟩
    obtain ⟨hc_w3, hf_w3⟩ := bcell hb_w3
    have hs3 := hb_w3.size
    (try simp only [World.size_alloc] at hs3)
    have c23 : Below w2.heap.size w2 w3 := (by repeat (first | exact Below.refl _ _ | assumption | (refine below_drewN ?_ _) | (refine Below.drew ?_) | (refine Below.alloc ?_ (by first | omega | (simp; omega) | simp) _) | (refine Below.setCell ?_ (by first | omega | (simp; omega) | simp) _) | (refine below_trans ?_ (by assumption) (by first | omega | (simp; omega) | simp))))
    have b3 : Below w.heap.size w w3 := b2.trans (c23.mono (by omega))
    have Y3 := Y2.below c23 (by omega)
    have y3 : ∀ i, w3.frozen? ⟨w.heap.size, i, none⟩ = false := fun i => ((bcell c23).2 _ _ (by show w.heap.size < _; omega)).trans (y2 i)
    have o2'' := o2'.later c23
    have o3' : Own w3 (w.heap.size + 1) A3 ws := o3.mono (by first | omega | (simp; omega) | simp)
    have q0 : w3.cell? ⟨w2.heap.size, 0, none⟩ = some (.int .i64 1) := (hc_w3 _ _ (by first | omega | (simp; omega) | simp)).trans (by simp [go_sem])
    have q1 : w3.cell? ⟨w2.heap.size, 1, none⟩ = some (.slice A2 ws.length c2) := (hc_w3 _ _ (by first | omega | (simp; omega) | simp)).trans (by simp [go_sem])
    have l23 : w2.heap.size < w3.heap.size := by omega
    clear hc_w3 hf_w3 Y2 y2 o2' o3 hb_w3
    go_wp2_with fail
    go_at_call 40
    refine (HRT.out _ A2 A3 c2 c3 (o2''.row.later (by repeat (first | exact Below.refl _ _ | assumption | (refine below_drewN ?_ _) | (refine Below.drew ?_) | (refine Below.alloc ?_ (by first | omega | (simp; omega) | simp) _) | (refine Below.setCell ?_ (by first | omega | (simp; omega) | simp) _) | (refine below_trans ?_ (by assumption) (by first | omega | (simp; omega) | simp))))) (o3'.row.later (by repeat (first | exact Below.refl _ _ | assumption | (refine below_drewN ?_ _) | (refine Below.drew ?_) | (refine Below.alloc ?_ (by first | omega | (simp; omega) | simp) _) | (refine Below.setCell ?_ (by first | omega | (simp; omega) | simp) _) | (refine below_trans ?_ (by assumption) (by first | omega | (simp; omega) | simp)))))).mono ?_
    rintro e w4 ⟨rfl, hb_w4⟩
    obtain ⟨hc_w4, hf_w4⟩ := bcell hb_w4
    have hs4 := hb_w4.size
    (try simp only [World.size_alloc] at hs4)
    have c34 : Below w3.heap.size w3 w4 := (by repeat (first | exact Below.refl _ _ | assumption | (refine below_drewN ?_ _) | (refine Below.drew ?_) | (refine Below.alloc ?_ (by first | omega | (simp; omega) | simp) _) | (refine Below.setCell ?_ (by first | omega | (simp; omega) | simp) _) | (refine below_trans ?_ (by assumption) (by first | omega | (simp; omega) | simp))))
    have b4 : Below w.heap.size w w4 := b3.trans (c34.mono (by omega))
    have Y4 := Y3.below c34 (by omega)
    have y4 : ∀ i, w4.frozen? ⟨w.heap.size, i, none⟩ = false := fun i => ((bcell c34).2 _ _ (by show w.heap.size < _; omega)).trans (y3 i)
    have o2 := o2''.later c34
    have o3 := o3'.later c34
    have p0 : w4.cell? ⟨w3.heap.size + 1, 0, none⟩ = some (.int .i64 f) := (hc_w4 _ _ (by first | omega | (simp; omega) | simp)).trans (by simp [go_sem])
    have p1 : w4.cell? ⟨w3.heap.size + 1, 1, none⟩ = some (.int .i64 p) := (hc_w4 _ _ (by first | omega | (simp; omega) | simp)).trans (by simp [go_sem])
    have p2 : w4.cell? ⟨w3.heap.size + 1, 2, none⟩ = some (.int .i64 z) := (hc_w4 _ _ (by first | omega | (simp; omega) | simp)).trans (by simp [go_sem])
    have p3 : w4.cell? ⟨w3.heap.size + 1, 3, none⟩ = some (.int .i64 1) := (hc_w4 _ _ (by first | omega | (simp; omega) | simp)).trans (by simp [go_sem])
    have p4 : w4.cell? ⟨w3.heap.size + 1, 4, none⟩ = some (.slice A2 ws.length c2) := (hc_w4 _ _ (by first | omega | (simp; omega) | simp)).trans (by simp [go_sem])
    have p5 : w4.cell? ⟨w3.heap.size + 1, 5, none⟩ = some (.int .i64 1) := (hc_w4 _ _ (by first | omega | (simp; omega) | simp)).trans (by simp [go_sem])
    have p6 : w4.cell? ⟨w3.heap.size + 1, 6, none⟩ = some (.slice A3 ws.length c3) := (hc_w4 _ _ (by first | omega | (simp; omega) | simp)).trans (by simp [go_sem])
    have p7 : w4.cell? ⟨w3.heap.size + 1, 7, none⟩ = some (.bool true) := (hc_w4 _ _ (by first | omega | (simp; omega) | simp)).trans (by simp [go_sem])
    have v0 := y4 0
    have v1 := y4 1
    have v2 := y4 2
    have v3 := y4 3
    have v4 := y4 4
    have v5 := y4 5
    have v6 := y4 6
    have v7 := y4 7
    clear hc_w4 hf_w4 Y3 y3 o2'' o3' hb_w4 q0 q1
    obtain ⟨x0, x1, x2, x3, x4, x5, x6, x7⟩ := id Y4
    simp only [Nat.zero_add] at x0 x1 x2 x3 x4 x5 x6 x7
    cases b
    · go_wp2
      refine bodyPost_ret (res_span rfl rfl (Y4.set (d' := sd0) (A' := none) (ca' := 0) (M' := none) (cm' := 0))) rfl ⟨none, 0, none, 0, rfl, Own.nil _ _, Own.nil _ _, ?_⟩
      iterate 8 (refine Below.setCell ?_ (by first | omega | (simp; omega) | simp) _)
      exact b4
    · go_wp2
      refine bodyPost_ret (res_span rfl rfl (Y4.set (d' := ⟨f, p, z, 1, ws, 1, ws, true⟩) (A' := A2) (ca' := c2) (M' := A3) (cm' := c3))) rfl ⟨A2, c2, A3, c3, rfl, ?_, ?_, ?_⟩
      · refine Own.mono (B := w.heap.size + 1) ?_ (by first | omega | (simp; omega) | simp)
        iterate 8 (refine Own.far ?_ (.inl (by first | omega | (simp; omega) | simp)) _)
        exact o2
      · refine Own.mono (B := w.heap.size + 1) ?_ (by first | omega | (simp; omega) | simp)
        iterate 8 (refine Own.far ?_ (.inl (by first | omega | (simp; omega) | simp)) _)
        exact o3
      · iterate 8 (refine Below.setCell ?_ (by first | omega | (simp; omega) | simp) _)
        exact b4
end
end Go.Proofs.Ythphefoohkofbaa
