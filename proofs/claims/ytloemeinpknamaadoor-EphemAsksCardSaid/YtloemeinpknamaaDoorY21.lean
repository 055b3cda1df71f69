/- The questions about tables whose answers the document gives (lives). -/
import Derived.Test.YtloemeinpknamaaDoorY20
namespace Go.Proofs.YtloemeinpknamaaDoor
open Go.RowKit
set_option linter.unusedVariables false
set_option linter.unusedSimpArgs false

theorem row_two (W : World) (g : Nat) (hg : W.heap.size = g) : Row (W.alloc (.cells #[.int .u64 2, .int .u64 3] 25)) (W.alloc (.cells #[.int .u64 2, .int .u64 3] 25)).heap.size (some ⟨g, 0, none⟩) [2, 3] := by
  subst hg
  refine ⟨fun y hy => ?_, fun _ => ⟨W.heap.size, 0, rfl, by simp, fun i hi => ?_⟩⟩
  · simp at hy; unfold W64; omega
  · have : i = 0 ∨ i = 1 := by simp at hi; omega
    rcases this with rfl | rfl <;> simp [go_sem]
set_option maxHeartbeats 4000000 in
set_option maxRecDepth 100000 in
theorem elives_any (w : World) (hT : Tz w) : Calls Tryd.prog 15 #[] w fun e w' => e = .returned (.bool true) ∧ Below w.heap.size w w' := by
  have H1 : Hid (∀ W : World, Tz W → Calls Tryd.prog 11 #[.agg #[.slice none 0 0], .int .u64 1, .int .u64 10] W fun e W' => ∃ (B : Option Addr) (cb : Nat), e = .returned (.tuple #[.agg #[.slice B 8 cb], .int .i64 0]) ∧ ETab W' W.heap.size B cb tA ∧ Below W.heap.size W W') := Lib.hid fun W hT =>
    eput_any (w := W) (A := none) (l := []) 0 hT (ERow.nil _ _ _) (by simp) (fun _ => rfl) 1 10 (by decide) (by decide) _ _ putA
  have H2 : Hid (∀ (W : World) (A : Option Addr) (cap : Nat), Tz W → ERow W W.heap.size A tA → (A = none → cap = 0) → Calls Tryd.prog 11 #[.agg #[.slice A 8 cap], .int .u64 2, .int .u64 20] W fun e W' => ∃ (B : Option Addr) (cb : Nat), e = .returned (.tuple #[.agg #[.slice B 8 cb], .int .i64 0]) ∧ ETab W' W.heap.size B cb tB ∧ Below W.heap.size W W') := Lib.hid fun W A cap hT hr hn =>
    eput_any (w := W) (A := A) (l := tA) cap hT hr (by rw [lenA]; omega) hn 2 20 (by decide) (by decide) _ _ putB
  have H3 : Hid (∀ (W : World) (A : Option Addr) (cap : Nat), Tz W → ERow W W.heap.size A tB → (A = none → cap = 0) → Calls Tryd.prog 11 #[.agg #[.slice A 8 cap], .int .u64 1, .int .u64 11] W fun e W' => ∃ (B : Option Addr) (cb : Nat), e = .returned (.tuple #[.agg #[.slice B 8 cb], .int .i64 0]) ∧ ETab W' W.heap.size B cb tC ∧ Below W.heap.size W W') := Lib.hid fun W A cap hT hr hn =>
    eput_any (w := W) (A := A) (l := tB) cap hT hr (by rw [lenB]; omega) hn 1 11 (by decide) (by decide) _ _ putC
  have H4 : Hid (∀ (W : World) (A : Option Addr) (cap : Nat), Tz W → ERow W W.heap.size A tC → (A = none → cap = 0) → Calls Tryd.prog 17 #[.agg #[.slice A 8 cap], .int .u64 1] W fun e W' => e = .returned (.tuple #[.int .u64 11, .int .i64 0]) ∧ Below W.heap.size W W') := Lib.hid fun W A cap hT hr hn =>
    eget_any (w := W) (A := A) (l := tC) cap hT hr (by rw [lenC]; omega) hn 1 11 0 getC
  have H5 : Hid (∀ (W : World) (A K : Option Addr) (cap : Nat), Tz W → ERow W W.heap.size A tC → (A = none → cap = 0) → Row W W.heap.size K [2, 3] → Calls Tryd.prog 13 #[.agg #[.slice A 8 cap], .slice K 2 2] W fun e W' => ∃ (B : Option Addr) (cb : Nat), e = .returned (.tuple #[.agg #[.slice B 8 cb], .int .i64 1, .int .i64 0]) ∧ ETab W' W.heap.size B cb tD ∧ Below W.heap.size W W') := Lib.hid fun W A K cap hT hr hn hk =>
    edel_any (w := W) (A := A) (K := K) (l := tC) (ks := [2, 3]) cap 2 hT hr (by rw [lenC]; omega) hn hk (by simp) _ _ _ delC
  have H6 : Hid (∀ (W : World) (A : Option Addr) (cap : Nat), Tz W → ERow W W.heap.size A tD → (A = none → cap = 0) → Calls Tryd.prog 17 #[.agg #[.slice A 8 cap], .int .u64 2] W fun e W' => e = .returned (.tuple #[.int .u64 0, .int .i64 3]) ∧ Below W.heap.size W W') := Lib.hid fun W A cap hT hr hn =>
    eget_any (w := W) (A := A) (l := tD) cap hT hr (by rw [lenD]; omega) hn 2 0 3 getD2
  have H7 : Hid (∀ (W : World) (A : Option Addr) (cap : Nat), Tz W → ERow W W.heap.size A tC → (A = none → cap = 0) → Calls Tryd.prog 19 #[.agg #[.slice A 8 cap]] W fun e W' => ∃ (K : Option Addr) (ck cv : Nat) (g : Nat), e = .returned (.tuple #[.slice K 2 ck, .slice (some ⟨g, 0, none⟩) 2 cv, .int .i64 0]) ∧ W'.cell? ⟨g, 1, none⟩ = some (.int .u64 20) ∧ g < W'.heap.size ∧ Below W.heap.size W W') := Lib.hid fun W A cap hT hr hn => by
    refine (eall_any (w := W) (A := A) (l := tC) cap hT hr (by rw [lenC]; omega) hn okC).mono ?_
    rintro e W' ⟨vs, K, V, ck, cv, hs, _, rfl, oK, oV, hb⟩
    obtain ⟨hl, hv⟩ := srtC hs
    have h1 : (keysE vs).length = 2 := by simp [keysE, hl]
    have h2 : (valsE vs).length = 2 := by simp [valsE, hl]
    rw [h2] at oV
    obtain ⟨g, rfl, _, hg, hc⟩ := oV.own.at_ (by rw [h2]; omega)
    have hc1 := (hc 1 (by rw [h2]; omega)).1
    have e9 : (valsE vs).getD 1 0 = 20 := by
      rw [← hv]
      unfold valsE nthE
      simp only [List.getD_eq_getElem?_getD, List.getElem?_map]
      rw [List.getElem?_eq_getElem (by omega)]
      rfl
    rw [e9] at hc1
    exact ⟨K, ck, cv, g, by rw [h1, h2], hc1, hg, hb⟩
  have H8 : Hid (∀ W : World, Tz W → Calls Tryd.prog 21 #[.int .u64 1, .int .i64 8] W fun e W' => e = .returned (.tuple #[.int .i64 4, .int .i64 0]) ∧ W = W') := Lib.hid fun W hT => by
    have := ehome_any (w := W) 1 8 hT (.inl rfl)
    rw [hm18] at this
    exact this
  have H9 : Hid (∀ (W : World) (A : Option Addr) (cap : Nat), Tz W → ERow W W.heap.size A tC → (A = none → cap = 0) → Calls Tryd.prog 11 #[.agg #[.slice A 8 cap], .int .u64 0, .int .u64 1] W fun e W' => ∃ (B : Option Addr) (cb : Nat), e = .returned (.tuple #[.agg #[.slice B 8 cb], .int .i64 7]) ∧ ETab W' W.heap.size B cb tC ∧ Below W.heap.size W W') := Lib.hid fun W A cap hT hr hn =>
    eput_any (w := W) (A := A) (l := tC) cap hT hr (by rw [lenC]; omega) hn 0 1 (by decide) (by decide) _ _ putC0
  have HN := Lib.hid fun (W : World) (g : Nat) hg => row_two W g hg
  go_enter Tryd.func15, Tryd.ntmps15
  go_wp2_with fail
  go_at_call 11
  refine (H1.out _ (hT.later (by repeat (first | exact Below.refl _ _ | assumption | (refine below_drewN ?_ _) | (refine Below.drew ?_) | (refine Below.alloc ?_ (by first | omega | (simp; omega) | simp) _) | (refine Below.setCell ?_ (by first | omega | (simp; omega) | simp) _) | (refine below_trans ?_ (by assumption) (by first | omega | (simp; omega) | simp)))))).mono ?_
  rintro e w1 ⟨B1, c1, rfl, o1, hb_w1⟩
  obtain ⟨hc_w1, hf_w1⟩ := bcell hb_w1; have hs_w1 := hb_w1.size; (try simp only [World.size_alloc, World.size_setCell, World.size_drew, World.heap_drewN] at hs_w1)
  have b1 : Below w.heap.size w w1 := (by repeat (first | exact Below.refl _ _ | assumption | (refine below_drewN ?_ _) | (refine Below.drew ?_) | (refine Below.alloc ?_ (by first | omega | (simp; omega) | simp) _) | (refine Below.setCell ?_ (by first | omega | (simp; omega) | simp) _) | (refine below_trans ?_ (by assumption) (by first | omega | (simp; omega) | simp))))
  have n1 := Lib.hid o1.nil_
  clear hc_w1 hf_w1
  go_wp2_with fail
  go_at_call 11
  refine (H2.out _ _ _ (hT.later (by repeat (first | exact Below.refl _ _ | assumption | (refine below_drewN ?_ _) | (refine Below.drew ?_) | (refine Below.alloc ?_ (by first | omega | (simp; omega) | simp) _) | (refine Below.setCell ?_ (by first | omega | (simp; omega) | simp) _) | (refine below_trans ?_ (by assumption) (by first | omega | (simp; omega) | simp))))) (o1.row.later (by repeat (first | exact Below.refl _ _ | assumption | (refine below_drewN ?_ _) | (refine Below.drew ?_) | (refine Below.alloc ?_ (by first | omega | (simp; omega) | simp) _) | (refine Below.setCell ?_ (by first | omega | (simp; omega) | simp) _) | (refine below_trans ?_ (by assumption) (by first | omega | (simp; omega) | simp))))) n1.out).mono ?_
  rintro e w2 ⟨B2, c2, rfl, o2, hb_w2⟩
  obtain ⟨hc_w2, hf_w2⟩ := bcell hb_w2; have hz_w2_w1_0 : w1.heap.size < w2.heap.size := (by have hzz := hb_w2.size; (try simp only [World.size_alloc, World.size_setCell, World.size_drew, World.heap_drewN] at hzz); omega); have hs_w2 := hb_w2.size; (try simp only [World.size_alloc, World.size_setCell, World.size_drew, World.heap_drewN] at hs_w2)
  have b2 : Below w.heap.size w w2 := (by repeat (first | exact Below.refl _ _ | assumption | (refine below_drewN ?_ _) | (refine Below.drew ?_) | (refine Below.alloc ?_ (by first | omega | (simp; omega) | simp) _) | (refine Below.setCell ?_ (by first | omega | (simp; omega) | simp) _) | (refine below_trans ?_ (by assumption) (by first | omega | (simp; omega) | simp))))
  have P2 := ((Bx.new w1 _ _).later hb_w2 : Bx w2 _ _)
  obtain ⟨p20, p21⟩ := id P2
  have n2 := Lib.hid o2.nil_
  have o2 := o2.mono (B' := w1.heap.size + 1) (by simp)
  have P2' := Lib.hid (P2.set (.slice B2 8 c2))
  have o2' := Lib.hid (o2.far (p := ⟨w1.heap.size, 0, none⟩) (by show w1.heap.size < _; omega) (.slice B2 8 c2))
  clear hc_w2 hf_w2 P2 o2 o1
  go_wp2_with fail
  go_at_call 11
  refine (H3.out _ _ _ (hT.later (by repeat (first | exact Below.refl _ _ | assumption | (refine below_drewN ?_ _) | (refine Below.drew ?_) | (refine Below.alloc ?_ (by first | omega | (simp; omega) | simp) _) | (refine Below.setCell ?_ (by first | omega | (simp; omega) | simp) _) | (refine below_trans ?_ (by assumption) (by first | omega | (simp; omega) | simp))))) (o2'.out.row.later (by repeat (first | exact Below.refl _ _ | assumption | (refine below_drewN ?_ _) | (refine Below.drew ?_) | (refine Below.alloc ?_ (by first | omega | (simp; omega) | simp) _) | (refine Below.setCell ?_ (by first | omega | (simp; omega) | simp) _) | (refine below_trans ?_ (by assumption) (by first | omega | (simp; omega) | simp))))) n2.out).mono ?_
  rintro e w3 ⟨B3, c3, rfl, o3, hb_w3⟩
  obtain ⟨hc_w3, hf_w3⟩ := bcell hb_w3; have hz_w3_w1_0 : w1.heap.size < w3.heap.size := (by have hzz := hb_w3.size; (try simp only [World.size_alloc, World.size_setCell, World.size_drew, World.heap_drewN] at hzz); omega); have hs_w3 := hb_w3.size; (try simp only [World.size_alloc, World.size_setCell, World.size_drew, World.heap_drewN] at hs_w3)
  have b3 : Below w.heap.size w w3 := (by repeat (first | exact Below.refl _ _ | assumption | (refine below_drewN ?_ _) | (refine Below.drew ?_) | (refine Below.alloc ?_ (by first | omega | (simp; omega) | simp) _) | (refine Below.setCell ?_ (by first | omega | (simp; omega) | simp) _) | (refine below_trans ?_ (by assumption) (by first | omega | (simp; omega) | simp))))
  have P3 := (P2'.out.later hb_w3 : Bx w3 _ _)
  obtain ⟨p30, p31⟩ := id P3
  have n3 := Lib.hid o3.nil_
  have o3 := o3.mono (B' := w1.heap.size + 1) (by simp; omega)
  have P3' := Lib.hid (P3.set (.slice B3 8 c3))
  have o3' := Lib.hid (o3.far (p := ⟨w1.heap.size, 0, none⟩) (by show w1.heap.size < _; omega) (.slice B3 8 c3))
  clear hc_w3 hf_w3 P3 o3 P2' o2' p20 p21
  go_wp2_with fail
  go_at_call 17
  refine (H4.out _ _ _ (hT.later (by repeat (first | exact Below.refl _ _ | assumption | (refine below_drewN ?_ _) | (refine Below.drew ?_) | (refine Below.alloc ?_ (by first | omega | (simp; omega) | simp) _) | (refine Below.setCell ?_ (by first | omega | (simp; omega) | simp) _) | (refine below_trans ?_ (by assumption) (by first | omega | (simp; omega) | simp))))) (o3'.out.row.later (by repeat (first | exact Below.refl _ _ | assumption | (refine below_drewN ?_ _) | (refine Below.drew ?_) | (refine Below.alloc ?_ (by first | omega | (simp; omega) | simp) _) | (refine Below.setCell ?_ (by first | omega | (simp; omega) | simp) _) | (refine below_trans ?_ (by assumption) (by first | omega | (simp; omega) | simp))))) n3.out).mono ?_
  rintro e w4 ⟨rfl, hb_w4⟩
  obtain ⟨hc_w4, hf_w4⟩ := bcell hb_w4; have hz_w4_w1_0 : w1.heap.size < w4.heap.size := (by have hzz := hb_w4.size; (try simp only [World.size_alloc, World.size_setCell, World.size_drew, World.heap_drewN] at hzz); omega); have hs_w4 := hb_w4.size; (try simp only [World.size_alloc, World.size_setCell, World.size_drew, World.heap_drewN] at hs_w4)
  have b4 : Below w.heap.size w w4 := (by repeat (first | exact Below.refl _ _ | assumption | (refine below_drewN ?_ _) | (refine Below.drew ?_) | (refine Below.alloc ?_ (by first | omega | (simp; omega) | simp) _) | (refine Below.setCell ?_ (by first | omega | (simp; omega) | simp) _) | (refine below_trans ?_ (by assumption) (by first | omega | (simp; omega) | simp))))
  have P4 := (P3'.out.later hb_w4 : Bx w4 _ _)
  obtain ⟨p40, p41⟩ := id P4
  have o4 := Lib.hid (o3'.out.later hb_w4)
  clear hc_w4 hf_w4 P3' o3' p30 p31
  go_wp2_with fail
  go_at_call 13
  refine (H5.out _ _ _ _ (hT.later (by repeat (first | exact Below.refl _ _ | assumption | (refine below_drewN ?_ _) | (refine Below.drew ?_) | (refine Below.alloc ?_ (by first | omega | (simp; omega) | simp) _) | (refine Below.setCell ?_ (by first | omega | (simp; omega) | simp) _) | (refine below_trans ?_ (by assumption) (by first | omega | (simp; omega) | simp))))) (o4.out.row.later (by repeat (first | exact Below.refl _ _ | assumption | (refine below_drewN ?_ _) | (refine Below.drew ?_) | (refine Below.alloc ?_ (by first | omega | (simp; omega) | simp) _) | (refine Below.setCell ?_ (by first | omega | (simp; omega) | simp) _) | (refine below_trans ?_ (by assumption) (by first | omega | (simp; omega) | simp))))) n3.out (by exact HN.out _ _ rfl)).mono ?_
  rintro e w5 ⟨B5, c5, rfl, o5, hb_w5⟩
  obtain ⟨hc_w5, hf_w5⟩ := bcell hb_w5; have hz_w5_w1_0 : w1.heap.size < w5.heap.size := (by have hzz := hb_w5.size; (try simp only [World.size_alloc, World.size_setCell, World.size_drew, World.heap_drewN] at hzz); omega); have hs_w5 := hb_w5.size; (try simp only [World.size_alloc, World.size_setCell, World.size_drew, World.heap_drewN] at hs_w5)
  have b5 : Below w.heap.size w w5 := (by repeat (first | exact Below.refl _ _ | assumption | (refine below_drewN ?_ _) | (refine Below.drew ?_) | (refine Below.alloc ?_ (by first | omega | (simp; omega) | simp) _) | (refine Below.setCell ?_ (by first | omega | (simp; omega) | simp) _) | (refine below_trans ?_ (by assumption) (by first | omega | (simp; omega) | simp))))
  have P5 := ((P4.alloc _).later hb_w5 : Bx w5 _ _)
  obtain ⟨p50, p51⟩ := id P5
  have n5 := Lib.hid o5.nil_
  have o45 := Lib.hid ((o4.out.later ((Below.refl _ _).alloc (Nat.le_refl _) _)).later hb_w5)
  clear hc_w5 hf_w5 o4 P4 p40 p41
  go_wp2_with fail
  go_at_call 17
  refine (H6.out _ _ _ (hT.later (by repeat (first | exact Below.refl _ _ | assumption | (refine below_drewN ?_ _) | (refine Below.drew ?_) | (refine Below.alloc ?_ (by first | omega | (simp; omega) | simp) _) | (refine Below.setCell ?_ (by first | omega | (simp; omega) | simp) _) | (refine below_trans ?_ (by assumption) (by first | omega | (simp; omega) | simp))))) (o5.row.later (by repeat (first | exact Below.refl _ _ | assumption | (refine below_drewN ?_ _) | (refine Below.drew ?_) | (refine Below.alloc ?_ (by first | omega | (simp; omega) | simp) _) | (refine Below.setCell ?_ (by first | omega | (simp; omega) | simp) _) | (refine below_trans ?_ (by assumption) (by first | omega | (simp; omega) | simp))))) n5.out).mono ?_
  rintro e w6 ⟨rfl, hb_w6⟩
  obtain ⟨hc_w6, hf_w6⟩ := bcell hb_w6; have hz_w6_w1_0 : w1.heap.size < w6.heap.size := (by have hzz := hb_w6.size; (try simp only [World.size_alloc, World.size_setCell, World.size_drew, World.heap_drewN] at hzz); omega); have hs_w6 := hb_w6.size; (try simp only [World.size_alloc, World.size_setCell, World.size_drew, World.heap_drewN] at hs_w6)
  have b6 : Below w.heap.size w w6 := (by repeat (first | exact Below.refl _ _ | assumption | (refine below_drewN ?_ _) | (refine Below.drew ?_) | (refine Below.alloc ?_ (by first | omega | (simp; omega) | simp) _) | (refine Below.setCell ?_ (by first | omega | (simp; omega) | simp) _) | (refine below_trans ?_ (by assumption) (by first | omega | (simp; omega) | simp))))
  have P6 := ((P5.alloc _).later hb_w6 : Bx w6 _ _)
  obtain ⟨p60, p61⟩ := id P6
  have o46 := Lib.hid ((o45.out.later ((Below.refl _ _).alloc (Nat.le_refl _) _)).later hb_w6)
  clear hc_w6 hf_w6 o45 P5 p50 p51
  go_wp2_with fail
  go_at_call 19
  refine (H7.out _ _ _ (hT.later (by repeat (first | exact Below.refl _ _ | assumption | (refine below_drewN ?_ _) | (refine Below.drew ?_) | (refine Below.alloc ?_ (by first | omega | (simp; omega) | simp) _) | (refine Below.setCell ?_ (by first | omega | (simp; omega) | simp) _) | (refine below_trans ?_ (by assumption) (by first | omega | (simp; omega) | simp))))) (o46.out.row.later (by repeat (first | exact Below.refl _ _ | assumption | (refine below_drewN ?_ _) | (refine Below.drew ?_) | (refine Below.alloc ?_ (by first | omega | (simp; omega) | simp) _) | (refine Below.setCell ?_ (by first | omega | (simp; omega) | simp) _) | (refine below_trans ?_ (by assumption) (by first | omega | (simp; omega) | simp))))) n3.out).mono ?_
  rintro e w7 ⟨K7, c7, d7, g7, rfl, k7, l7, hb_w7⟩
  obtain ⟨hc_w7, hf_w7⟩ := bcell hb_w7; have hz_w7_w1_0 : w1.heap.size < w7.heap.size := (by have hzz := hb_w7.size; (try simp only [World.size_alloc, World.size_setCell, World.size_drew, World.heap_drewN] at hzz); omega); have hs_w7 := hb_w7.size; (try simp only [World.size_alloc, World.size_setCell, World.size_drew, World.heap_drewN] at hs_w7)
  have b7 : Below w.heap.size w w7 := (by repeat (first | exact Below.refl _ _ | assumption | (refine below_drewN ?_ _) | (refine Below.drew ?_) | (refine Below.alloc ?_ (by first | omega | (simp; omega) | simp) _) | (refine Below.setCell ?_ (by first | omega | (simp; omega) | simp) _) | (refine below_trans ?_ (by assumption) (by first | omega | (simp; omega) | simp))))
  have P7 := (P6.later hb_w7 : Bx w7 _ _)
  obtain ⟨p70, p71⟩ := id P7
  have o47 := Lib.hid (o46.out.later hb_w7)
  clear hc_w7 hf_w7 o46 P6 p60 p61
  go_wp2_with fail
  go_at_call 21
  refine (H8.out _ (hT.later (by repeat (first | exact Below.refl _ _ | assumption | (refine below_drewN ?_ _) | (refine Below.drew ?_) | (refine Below.alloc ?_ (by first | omega | (simp; omega) | simp) _) | (refine Below.setCell ?_ (by first | omega | (simp; omega) | simp) _) | (refine below_trans ?_ (by assumption) (by first | omega | (simp; omega) | simp)))))).mono ?_
  rintro e w0 ⟨rfl, rfl⟩
  go_wp2_with fail
  go_at_call 11
  refine (H9.out _ _ _ (hT.later (by repeat (first | exact Below.refl _ _ | assumption | (refine below_drewN ?_ _) | (refine Below.drew ?_) | (refine Below.alloc ?_ (by first | omega | (simp; omega) | simp) _) | (refine Below.setCell ?_ (by first | omega | (simp; omega) | simp) _) | (refine below_trans ?_ (by assumption) (by first | omega | (simp; omega) | simp))))) (o47.out.row.later (by repeat (first | exact Below.refl _ _ | assumption | (refine below_drewN ?_ _) | (refine Below.drew ?_) | (refine Below.alloc ?_ (by first | omega | (simp; omega) | simp) _) | (refine Below.setCell ?_ (by first | omega | (simp; omega) | simp) _) | (refine below_trans ?_ (by assumption) (by first | omega | (simp; omega) | simp))))) n3.out).mono ?_
  rintro e w9 ⟨B9, c9, rfl, o9, hb_w9⟩
  obtain ⟨hc_w9, hf_w9⟩ := bcell hb_w9; have hz_w9_w1_0 : w1.heap.size < w9.heap.size := (by have hzz := hb_w9.size; (try simp only [World.size_alloc, World.size_setCell, World.size_drew, World.heap_drewN] at hzz); omega); have hs_w9 := hb_w9.size; (try simp only [World.size_alloc, World.size_setCell, World.size_drew, World.heap_drewN] at hs_w9)
  have b9 : Below w.heap.size w w9 := (by repeat (first | exact Below.refl _ _ | assumption | (refine below_drewN ?_ _) | (refine Below.drew ?_) | (refine Below.alloc ?_ (by first | omega | (simp; omega) | simp) _) | (refine Below.setCell ?_ (by first | omega | (simp; omega) | simp) _) | (refine below_trans ?_ (by assumption) (by first | omega | (simp; omega) | simp))))
  obtain ⟨p90, p91⟩ := (P7.later hb_w9 : Bx w9 _ _)
  have k9 : w9.cell? ⟨g7, 1, none⟩ = some (.int .u64 20) := (hc_w9 _ _ l7).trans k7
  have l9 : g7 < w9.heap.size := by omega
  clear hc_w9 hf_w9 p70 p71 k7 o47
  go_wp2
  go_ret
  exact ⟨rfl, (by repeat (first | exact Below.refl _ _ | assumption | (refine below_drewN ?_ _) | (refine Below.drew ?_) | (refine Below.alloc ?_ (by first | omega | (simp; omega) | simp) _) | (refine Below.setCell ?_ (by first | omega | (simp; omega) | simp) _) | (refine below_trans ?_ (by assumption) (by first | omega | (simp; omega) | simp))))⟩
end Go.Proofs.YtloemeinpknamaaDoor
