/- Contract of grey.Pop. -/
import Derived.Test.YtlaladhnidcoiaaG8
namespace Go.Proofs.Ytlaladhnidcoiaa
open Go.RowKit
set_option linter.unusedVariables false
set_option linter.unusedSimpArgs false

def PopG (w : World) (r : List (List Nat)) (a : Nat) (s : Bool) (y : Int) (e : Ending) (w' : World) : Prop := ∃ (B : Option Addr) (cb : Nat), e = .returned (.tuple #[gv B r.length cb, .int .u64 (a : Nat), .bool s, .int .i64 y]) ∧ GOwn w' w.heap.size B r ∧ Below w.heap.size w w'
section
variable {w : World} {A : Option Addr} {qs : List (List Nat)} (cap : Nat)
set_option maxHeartbeats 4000000 in
theorem gpop_any (hr : GRow w A qs) (x : Int) (hx : -9223372036854775808 ≤ x ∧ x ≤ 9223372036854775807) (r : List (List Nat)) (a : Nat) (s : Bool) (y : Int) (hE : PopE qs x r a s y) :
    Calls Try.prog 12 #[gv A qs.length cap, .int .i64 x] w fun e w' => PopG w r a s y e w' := by
  unfold PopG
  have hlim := hr.lim
  by_cases hok : OkG qs
  rotate_left
  · have HV := Lib.hid fun (w : World) hr => gcheck_any (w := w) (A := A) (qs := qs) cap hr 2 (.inr ⟨hok, rfl⟩)
    have e1 : r = [] ∧ a = 0 ∧ s = false ∧ y = 2 := by
      rcases hE with ⟨_, h⟩ | ⟨h, _⟩ | ⟨h, _⟩ | ⟨h, _⟩ | ⟨h, _⟩
      · exact h
      all_goals exact absurd h hok
    obtain ⟨rfl, rfl, rfl, rfl⟩ := e1
    clear hE hok
    unfold gv at *
    go_enter Try.func12, Try.ntmps12
    go_wp2_with fail
    go_at_call 20
    refine (HV.out _ (hr.later (by repeat (first | exact Below.refl _ _ | assumption | (refine below_drewN ?_ _) | (refine Below.drew ?_) | (refine Below.alloc ?_ (by first | omega | (simp; omega) | simp) _) | (refine Below.setCell ?_ (by first | omega | (simp; omega) | simp) _) | (refine below_trans ?_ (by assumption) (by first | omega | (simp; omega) | simp)))))).mono ?_
    rintro e w1 ⟨rfl, hb_w1⟩
    obtain ⟨hc_w1, hf_w1⟩ := bcell hb_w1; have hz_w1_w_0 : w.heap.size < w1.heap.size := (by have hzz := hb_w1.size; (try simp only [World.size_alloc, World.size_setCell, World.size_drew, World.heap_drewN] at hzz); omega); have hz_w1_w_1 : w.heap.size + 1 < w1.heap.size := (by have hzz := hb_w1.size; (try simp only [World.size_alloc, World.size_setCell, World.size_drew, World.heap_drewN] at hzz); omega); have hs_w1 := hb_w1.size; (try simp only [World.size_alloc, World.size_setCell, World.size_drew, World.heap_drewN] at hs_w1)
    obtain ⟨q0, q1⟩ := ((Bx.new (w.alloc _) _ _).later hb_w1 : Bx w1 _ _)
    simp only [World.size_alloc] at q0 q1
    clear hc_w1 hf_w1
    go_wp2
    exact bodyPost_ret (res_g4 rfl rfl (g := w.heap.size + 1) (v0 := .slice none 0 0) (by first | exact World.cell?_setCell_same _ _ _ q0 | exact World.cell?_setCell_same _ _ _ (by first | exact q0 | (exact (World.cell?_alloc_lt _ _ ⟨_, _, _⟩ (by first | omega | (simp; omega) | simp)).trans q0) | (exact (World.cell?_alloc_lt _ _ ⟨_, _, _⟩ (by first | omega | (simp; omega) | simp)).trans ((World.cell?_alloc_lt _ _ ⟨_, _, _⟩ (by first | omega | (simp; omega) | simp)).trans q0)) | (simp [go_sem, q0]; done)) | exact (World.cell?_alloc_lt _ _ ⟨_, _, _⟩ (by first | omega | (simp; omega) | simp)).trans (World.cell?_setCell_same _ _ _ q0) | (simp [go_sem, q0]; done))) rfl ⟨none, 0, rfl, GOwn.nil _ _ _, (by repeat (first | exact Below.refl _ _ | assumption | (refine below_drewN ?_ _) | (refine Below.drew ?_) | (refine Below.alloc ?_ (by first | omega | (simp; omega) | simp) _) | (refine Below.setCell ?_ (by first | omega | (simp; omega) | simp) _) | (refine below_trans ?_ (by assumption) (by first | omega | (simp; omega) | simp))))⟩
  have HV := Lib.hid fun (w : World) hr => gcheck_any (w := w) (A := A) (qs := qs) cap hr 0 (.inl ⟨hok, rfl⟩)
  have HT := Lib.hid fun (w : World) hr => gtwin_any (w := w) (A := A) (qs := qs) cap hr hok.lo hok.hi
  unfold TwinG at HT
  by_cases hh : hasG qs x
  rotate_left
  · have e1 : r = qs ∧ a = 0 ∧ s = false ∧ y = 11 := by
      rcases hE with ⟨h, _⟩ | ⟨_, _, h⟩ | ⟨_, h, _⟩ | ⟨_, h, _⟩ | ⟨_, h, _⟩
      · exact absurd hok h
      · exact h
      all_goals exact absurd h hh
    obtain ⟨rfl, rfl, rfl, rfl⟩ := e1
    have hb0 : (false = true ↔ (0 ≤ x ∧ x < (r.length : Nat))) := ⟨fun h => (by cases h), fun h => absurd h hh⟩
    have HH := Lib.hid fun (w : World) (B : Option Addr) (c : Nat) => ghas_any (w := w) (A := B) c r.length (by have := hok.hi; omega) x hx false hb0
    clear hE hok hh hb0
    unfold gv at *
    go_enter Try.func12, Try.ntmps12
    go_wp2_with fail
    go_at_call 20
    refine (HV.out _ (hr.later (by repeat (first | exact Below.refl _ _ | assumption | (refine below_drewN ?_ _) | (refine Below.drew ?_) | (refine Below.alloc ?_ (by first | omega | (simp; omega) | simp) _) | (refine Below.setCell ?_ (by first | omega | (simp; omega) | simp) _) | (refine below_trans ?_ (by assumption) (by first | omega | (simp; omega) | simp)))))).mono ?_
    rintro e w1 ⟨rfl, hb_w1⟩
    obtain ⟨hc_w1, hf_w1⟩ := bcell hb_w1; have hz_w1_w_0 : w.heap.size < w1.heap.size := (by have hzz := hb_w1.size; (try simp only [World.size_alloc, World.size_setCell, World.size_drew, World.heap_drewN] at hzz); omega); have hz_w1_w_1 : w.heap.size + 1 < w1.heap.size := (by have hzz := hb_w1.size; (try simp only [World.size_alloc, World.size_setCell, World.size_drew, World.heap_drewN] at hzz); omega); have hs_w1 := hb_w1.size; (try simp only [World.size_alloc, World.size_setCell, World.size_drew, World.heap_drewN] at hs_w1)
    have b1 : Below w.heap.size w w1 := (by repeat (first | exact Below.refl _ _ | assumption | (refine below_drewN ?_ _) | (refine Below.drew ?_) | (refine Below.alloc ?_ (by first | omega | (simp; omega) | simp) _) | (refine Below.setCell ?_ (by first | omega | (simp; omega) | simp) _) | (refine below_trans ?_ (by assumption) (by first | omega | (simp; omega) | simp))))
    have Q := ((Bx.new (w.alloc _) _ _).later hb_w1 : Bx w1 _ _)
    have P := ((Bx.new w _ _).alloc _ |>.later hb_w1 : Bx w1 _ _)
    simp only [World.size_alloc] at Q
    obtain ⟨p0, p1⟩ := id P
    clear hc_w1 hf_w1
    go_wp2_with fail
    go_at_call 24
    refine (HT.out _ ((hr.later b1).later (by repeat (first | exact Below.refl _ _ | assumption | (refine below_drewN ?_ _) | (refine Below.drew ?_) | (refine Below.alloc ?_ (by first | omega | (simp; omega) | simp) _) | (refine Below.setCell ?_ (by first | omega | (simp; omega) | simp) _) | (refine below_trans ?_ (by assumption) (by first | omega | (simp; omega) | simp)))))).mono ?_
    rintro e w2 ⟨B2, c2, vs, rfl, hvs, o2, hb_w2⟩
    obtain ⟨hc_w2, hf_w2⟩ := bcell hb_w2; have hs_w2 := hb_w2.size; (try simp only [World.size_alloc, World.size_setCell, World.size_drew, World.heap_drewN] at hs_w2)
    have b2 : Below w.heap.size w w2 := (by repeat (first | exact Below.refl _ _ | assumption | (refine below_drewN ?_ _) | (refine Below.drew ?_) | (refine Below.alloc ?_ (by first | omega | (simp; omega) | simp) _) | (refine Below.setCell ?_ (by first | omega | (simp; omega) | simp) _) | (refine below_trans ?_ (by assumption) (by first | omega | (simp; omega) | simp))))
    have Q := (Q.later hb_w2 : Bx w2 _ _)
    clear hc_w2 hf_w2
    go_wp2_with fail
    go_at_call 25
    refine (HH.out _ _ _).mono ?_
    rintro e w3 ⟨rfl, hb_w3⟩
    obtain ⟨hc_w3, hf_w3⟩ := bcell hb_w3; have hz_w3_w2_0 : w2.heap.size < w3.heap.size := (by have hzz := hb_w3.size; (try simp only [World.size_alloc, World.size_setCell, World.size_drew, World.heap_drewN] at hzz); omega); have hs_w3 := hb_w3.size; (try simp only [World.size_alloc, World.size_setCell, World.size_drew, World.heap_drewN] at hs_w3)
    have b3 : Below w.heap.size w w3 := (by repeat (first | exact Below.refl _ _ | assumption | (refine below_drewN ?_ _) | (refine Below.drew ?_) | (refine Below.alloc ?_ (by first | omega | (simp; omega) | simp) _) | (refine Below.setCell ?_ (by first | omega | (simp; omega) | simp) _) | (refine below_trans ?_ (by assumption) (by first | omega | (simp; omega) | simp))))
    have Q := ((Q.alloc _).later hb_w3 : Bx w3 _ _)
    have T := ((Bx.new w2 _ _).later hb_w3 : Bx w3 _ _)
    have o3 := ((o2.later ((Below.refl _ _).alloc (Nat.le_refl _) _)).later hb_w3)
    have HO := Lib.hid ((o3.far (p := ⟨w.heap.size + 1, 0, none⟩) (by show _ < w1.heap.size; omega) (.slice B2 r.length c2)).own (by rw [hvs]; exact hlim))
    rw [hvs] at HO
    obtain ⟨q0, q1⟩ := id Q
    obtain ⟨t0, t1⟩ := id T
    have n1 : ¬ (w2.heap.size = w.heap.size + 1) := by omega
    have n2 : ¬ (w.heap.size + 1 = w2.heap.size) := by omega
    clear hc_w3 hf_w3 o2 o3
    go_wp2
    exact bodyPost_ret (res_g4 rfl rfl (g := w.heap.size + 1) (v0 := .slice B2 r.length c2) (by first | exact World.cell?_setCell_same _ _ _ q0 | exact World.cell?_setCell_same _ _ _ (by first | exact q0 | (exact (World.cell?_alloc_lt _ _ ⟨_, _, _⟩ (by first | omega | (simp; omega) | simp)).trans q0) | (exact (World.cell?_alloc_lt _ _ ⟨_, _, _⟩ (by first | omega | (simp; omega) | simp)).trans ((World.cell?_alloc_lt _ _ ⟨_, _, _⟩ (by first | omega | (simp; omega) | simp)).trans q0)) | (simp [go_sem, q0]; done)) | exact (World.cell?_alloc_lt _ _ ⟨_, _, _⟩ (by first | omega | (simp; omega) | simp)).trans (World.cell?_setCell_same _ _ _ q0) | (simp [go_sem, q0]; done))) rfl ⟨B2, c2, rfl, HO.out.mono (by omega), (by repeat (first | exact Below.refl _ _ | assumption | (refine below_drewN ?_ _) | (refine Below.drew ?_) | (refine Below.alloc ?_ (by first | omega | (simp; omega) | simp) _) | (refine Below.setCell ?_ (by first | omega | (simp; omega) | simp) _) | (refine below_trans ?_ (by assumption) (by first | omega | (simp; omega) | simp))))⟩
  have hlo := hok.lo
  have hhi := hok.hi
  obtain ⟨k, rfl⟩ := Int.eq_ofNat_of_zero_le hh.1
  have hkn : k < qs.length := by have := hh.2; omega
  have hb0 : (true = true ↔ (0 ≤ (k : Int) ∧ (k : Int) < (qs.length : Nat))) := ⟨fun _ => hh, fun _ => rfl⟩
  have HH := Lib.hid fun (w : World) (B : Option Addr) (c : Nat) => ghas_any (w := w) (A := B) c qs.length (by omega) (k : Int) hx true hb0
  have hk2 : (k : Int).toNat = k := Int.toNat_natCast k
  unfold PopE at hE
  simp only [hk2] at hE
  clear hk2
  have HY : Hid ((0 < (nq qs k).length ∧ r = qs.set k ((nq qs k).take ((nq qs k).length - 1)) ∧ a = (nq qs k).getD ((nq qs k).length - 1) 0 ∧ s = false ∧ y = 0) ∨
      ((nq qs k).length = 0 ∧ (nq qs (lng qs)).length = 0 ∧ r = qs ∧ a = 0 ∧ s = false ∧ y = 3) ∨
      ((nq qs k).length = 0 ∧ 0 < (nq qs (lng qs)).length ∧ r = qs.set (lng qs) ((nq qs (lng qs)).drop 1) ∧ a = (nq qs (lng qs)).getD 0 0 ∧ s = true ∧ y = 0)) := Lib.hid (by
    rcases hE with ⟨h, _⟩ | ⟨_, h, _⟩ | ⟨_, _, h⟩ | ⟨_, _, h⟩ | ⟨_, _, h⟩
    · exact absurd hok h
    · exact absurd hh h
    · exact .inl h
    · exact .inr (.inl h)
    · exact .inr (.inr h))
  obtain ⟨n, hn⟩ : ∃ n, Hid (qs.length = n) := ⟨_, rfl⟩
  have hmn : lng qs < qs.length := lng_lt hlo
  have HLG := Lib.hid fun (w : World) (B : Option Addr) (c : Nat) hr => glong_any (w := w) (A := B) (qs := qs) c hr hlo hhi (lng qs) rfl
  rw [hn.out] at hlo hhi hkn hmn
  rw [hn.out] at HV HT HH HLG ⊢
  clear hE hok hh hb0
  unfold gv at *
  go_enter Try.func12, Try.ntmps12
  go_wp2_with fail
  go_at_call 20
  refine (HV.out _ (hr.later (by repeat (first | exact Below.refl _ _ | assumption | (refine below_drewN ?_ _) | (refine Below.drew ?_) | (refine Below.alloc ?_ (by first | omega | (simp; omega) | simp) _) | (refine Below.setCell ?_ (by first | omega | (simp; omega) | simp) _) | (refine below_trans ?_ (by assumption) (by first | omega | (simp; omega) | simp)))))).mono ?_
  rintro e w1 ⟨rfl, hb_w1⟩
  obtain ⟨hc_w1, hf_w1⟩ := bcell hb_w1; have hz_w1_w_0 : w.heap.size < w1.heap.size := (by have hzz := hb_w1.size; (try simp only [World.size_alloc, World.size_setCell, World.size_drew, World.heap_drewN] at hzz); omega); have hz_w1_w_1 : w.heap.size + 1 < w1.heap.size := (by have hzz := hb_w1.size; (try simp only [World.size_alloc, World.size_setCell, World.size_drew, World.heap_drewN] at hzz); omega); have hs_w1 := hb_w1.size; (try simp only [World.size_alloc, World.size_setCell, World.size_drew, World.heap_drewN] at hs_w1)
  have b1 : Below w.heap.size w w1 := (by repeat (first | exact Below.refl _ _ | assumption | (refine below_drewN ?_ _) | (refine Below.drew ?_) | (refine Below.alloc ?_ (by first | omega | (simp; omega) | simp) _) | (refine Below.setCell ?_ (by first | omega | (simp; omega) | simp) _) | (refine below_trans ?_ (by assumption) (by first | omega | (simp; omega) | simp))))
  have Q := ((Bx.new (w.alloc _) _ _).later hb_w1 : Bx w1 _ _)
  have P := ((Bx.new w _ _).alloc _ |>.later hb_w1 : Bx w1 _ _)
  simp only [World.size_alloc] at Q
  obtain ⟨p0, p1⟩ := id P
  clear hc_w1 hf_w1
  go_wp2_with fail
  go_at_call 24
  refine (HT.out _ ((hr.later b1).later (by repeat (first | exact Below.refl _ _ | assumption | (refine below_drewN ?_ _) | (refine Below.drew ?_) | (refine Below.alloc ?_ (by first | omega | (simp; omega) | simp) _) | (refine Below.setCell ?_ (by first | omega | (simp; omega) | simp) _) | (refine below_trans ?_ (by assumption) (by first | omega | (simp; omega) | simp)))))).mono ?_
  rintro e w2 ⟨B2, c2, vs, rfl, hvs, o2, hb_w2⟩
  obtain ⟨hc_w2, hf_w2⟩ := bcell hb_w2; have hs_w2 := hb_w2.size; (try simp only [World.size_alloc, World.size_setCell, World.size_drew, World.heap_drewN] at hs_w2)
  have b2 : Below w.heap.size w w2 := (by repeat (first | exact Below.refl _ _ | assumption | (refine below_drewN ?_ _) | (refine Below.drew ?_) | (refine Below.alloc ?_ (by first | omega | (simp; omega) | simp) _) | (refine Below.setCell ?_ (by first | omega | (simp; omega) | simp) _) | (refine below_trans ?_ (by assumption) (by first | omega | (simp; omega) | simp))))
  have Q := (Q.later hb_w2 : Bx w2 _ _)
  have hvl : vs.length = n := by rw [← qsOf_len, hvs]; exact hn.out
  obtain ⟨g, rfl, hg1, hg2⟩ := o2.adr (by omega)
  clear hc_w2 hf_w2
  go_wp2_with fail
  go_at_call 25
  refine (HH.out _ _ _).mono ?_
  rintro e w3 ⟨rfl, hb_w3⟩
  obtain ⟨hc_w3, hf_w3⟩ := bcell hb_w3; have hz_w3_w2_0 : w2.heap.size < w3.heap.size := (by have hzz := hb_w3.size; (try simp only [World.size_alloc, World.size_setCell, World.size_drew, World.heap_drewN] at hzz); omega); have hs_w3 := hb_w3.size; (try simp only [World.size_alloc, World.size_setCell, World.size_drew, World.heap_drewN] at hs_w3)
  have b3 : Below w.heap.size w w3 := (by repeat (first | exact Below.refl _ _ | assumption | (refine below_drewN ?_ _) | (refine Below.drew ?_) | (refine Below.alloc ?_ (by first | omega | (simp; omega) | simp) _) | (refine Below.setCell ?_ (by first | omega | (simp; omega) | simp) _) | (refine below_trans ?_ (by assumption) (by first | omega | (simp; omega) | simp))))
  have Q := ((Q.alloc _).later hb_w3 : Bx w3 _ _)
  have T := ((Bx.new w2 _ _).later hb_w3 : Bx w3 _ _)
  have o3 := ((o2.later ((Below.refl _ _).alloc (Nat.le_refl _) _)).later hb_w3)
  have HVS := Lib.hid hvs
  have HVL := Lib.hid hvl
  have hs21 : w1.heap.size ≤ w2.heap.size := hb_w2.size
  obtain ⟨q0, q1⟩ := id Q
  obtain ⟨t0, t1⟩ := id T
  have hg3 : g < w3.heap.size := by omega
  have n1 : ¬ (w2.heap.size = w.heap.size + 1) := by omega
  have n2 : ¬ (w.heap.size + 1 = w2.heap.size) := by omega
  have ng : g ≠ w2.heap.size := by omega
  have ng2 : g ≠ w.heap.size + 1 := by omega
  have hB : w1.heap.size ≤ g := hg1
  have i1 : (k : Int) < (n : Int) := by omega
  have i2 : (0 : Int) ≤ (k : Int) := by omega
  have c0 := o3.cell k (by omega)
  have e0 : vs[k].q = nq qs k := by rw [← hvs, qsOf_at _ _ (by omega)]
  rw [e0] at c0
  clear hc_w3 hf_w3 o2 p0 p1 P e0
  generalize vs[k].A = vA at c0
  generalize vs[k].c = vc at c0
  rcases HY.out with ⟨h0, hr1, ha, rfl, rfl⟩ | ⟨h0, h1, hr1, rfl, rfl, rfl⟩ | ⟨h0, h1, hr1, ha, rfl, rfl⟩
  · have HL := Lib.hid fun (w : World) o hg => glast_any (w := w) (B := w1.heap.size) (c := c2) (g := g) (k := k) (n := n) (vs := vs) o (by rw [hvs]; exact hlim) hB hg hvl (by omega) hkn (nq qs k) (by rw [hvs]) h0 a ha.symm
    have HR := Lib.hid hr1
    have hlen : r.length = n := by rw [hr1, List.length_set]; exact hn.out
    have HLN := Lib.hid hlen
    have d1 : decide ((0 : Int) < ((nq qs k).length : Int)) = true := by simp; omega
    have d2 : 0 < (nq qs k).length := h0
    generalize (nq qs k).length = L at *
    clear hr1 ha hlen hvs
    go_wp2_with fail
    go_at_call 28
    refine (HL.out _ o3 hg3).mono ?_
    rintro e w4 ⟨rfl, o4, hg4⟩
    have hs4 := hg4.size
    have b4 : Below w.heap.size w w4 := b3.grown hg4 (by omega) (fun k hk => by cases hk; omega)
    obtain ⟨q0, q1⟩ := (Q.grown hg4 (by omega) : Bx w4 _ _)
    obtain ⟨t0, t1⟩ := (T.grown hg4 (by omega) : Bx w4 _ _)
    rw [HVS.out, ← HR.out] at o4
    have HO := Lib.hid (o4.far (p := ⟨w.heap.size + 1, 0, none⟩) (by show _ < w1.heap.size; omega) (.slice (some ⟨g, 0, none⟩) n c2))
    clear o4 hg4 Q T
    go_wp2
    exact bodyPost_ret (res_g4 rfl rfl (g := w.heap.size + 1) (v0 := .slice (some ⟨g, 0, none⟩) n c2) (by first | exact World.cell?_setCell_same _ _ _ q0 | exact World.cell?_setCell_same _ _ _ (by first | exact q0 | (exact (World.cell?_alloc_lt _ _ ⟨_, _, _⟩ (by first | omega | (simp; omega) | simp)).trans q0) | (exact (World.cell?_alloc_lt _ _ ⟨_, _, _⟩ (by first | omega | (simp; omega) | simp)).trans ((World.cell?_alloc_lt _ _ ⟨_, _, _⟩ (by first | omega | (simp; omega) | simp)).trans q0)) | (simp [go_sem, q0]; done)) | exact (World.cell?_alloc_lt _ _ ⟨_, _, _⟩ (by first | omega | (simp; omega) | simp)).trans (World.cell?_setCell_same _ _ _ q0) | (simp [go_sem, q0]; done))) rfl ⟨some ⟨g, 0, none⟩, c2, by rw [HLN.out]; rfl, HO.out.mono (by omega), (by repeat (first | exact Below.refl _ _ | assumption | (refine below_drewN ?_ _) | (refine Below.drew ?_) | (refine Below.alloc ?_ (by first | omega | (simp; omega) | simp) _) | (refine Below.setCell ?_ (by first | omega | (simp; omega) | simp) _) | (refine below_trans ?_ (by assumption) (by first | omega | (simp; omega) | simp))))⟩
  · have hr1 := Lib.hid hr1
    have hrow : GRow w3 (some ⟨g, 0, none⟩) qs := by rw [← hvs]; exact (o3.own (by rw [hvs]; exact hlim)).row
    have HLG2 := Lib.hid fun (w : World) hr => HLG.out w (some ⟨g, 0, none⟩) c2 hr
    obtain ⟨m, hm⟩ : ∃ m, Hid (lng qs = m) := ⟨_, rfl⟩
    rw [hm.out] at hmn HLG2 h1
    have e1 : vs[m].q = nq qs m := by rw [← hvs, qsOf_at _ _ (by omega)]
    have z0 : (nq qs k).length = 0 := h0
    rw [z0] at c0
    have HLN : Hid (r.length = n) := Lib.hid (by rw [hr1.out]; exact hn.out)
    clear h0 z0
    go_wp2_with fail
    go_at_call 29
    refine (HLG2.out _ hrow).mono ?_
    rintro e w4 ⟨rfl, hb_w4⟩
    have hs4 := hb_w4.size
    have b4 : Below w.heap.size w w4 := (by repeat (first | exact Below.refl _ _ | assumption | (refine below_drewN ?_ _) | (refine Below.drew ?_) | (refine Below.alloc ?_ (by first | omega | (simp; omega) | simp) _) | (refine Below.setCell ?_ (by first | omega | (simp; omega) | simp) _) | (refine below_trans ?_ (by assumption) (by first | omega | (simp; omega) | simp))))
    have Q := Q.later hb_w4
    have T := T.later hb_w4
    have o4 := o3.later hb_w4
    have c1 := o4.cell m (by omega)
    rw [e1, h1] at c1
    obtain ⟨q0, q1⟩ := id Q
    obtain ⟨t0, t1⟩ := id T
    have j1 : (m : Int) < (n : Int) := by omega
    have j2 : (0 : Int) ≤ (m : Int) := by omega
    have HO := Lib.hid ((o4.far (p := ⟨w.heap.size + 1, 0, none⟩) (by show _ < w1.heap.size; omega) (.slice (some ⟨g, 0, none⟩) n c2)).own (by rw [hvs]; exact hlim))
    rw [hvs, ← hr1.out] at HO
    clear o4 o3 hrow hvs e1 h1
    generalize vs[m].A = uA at *
    generalize vs[m].c = uc at *
    go_wp2
    exact bodyPost_ret (res_g4 rfl rfl (g := w.heap.size + 1) (v0 := .slice (some ⟨g, 0, none⟩) n c2) (by first | exact World.cell?_setCell_same _ _ _ q0 | exact World.cell?_setCell_same _ _ _ (by first | exact q0 | (exact (World.cell?_alloc_lt _ _ ⟨_, _, _⟩ (by first | omega | (simp; omega) | simp)).trans q0) | (exact (World.cell?_alloc_lt _ _ ⟨_, _, _⟩ (by first | omega | (simp; omega) | simp)).trans ((World.cell?_alloc_lt _ _ ⟨_, _, _⟩ (by first | omega | (simp; omega) | simp)).trans q0)) | (simp [go_sem, q0]; done)) | exact (World.cell?_alloc_lt _ _ ⟨_, _, _⟩ (by first | omega | (simp; omega) | simp)).trans (World.cell?_setCell_same _ _ _ q0) | (simp [go_sem, q0]; done))) rfl ⟨some ⟨g, 0, none⟩, c2, by rw [HLN.out]; rfl, HO.out.mono (by omega), (by repeat (first | exact Below.refl _ _ | assumption | (refine below_drewN ?_ _) | (refine Below.drew ?_) | (refine Below.alloc ?_ (by first | omega | (simp; omega) | simp) _) | (refine Below.setCell ?_ (by first | omega | (simp; omega) | simp) _) | (refine below_trans ?_ (by assumption) (by first | omega | (simp; omega) | simp))))⟩
  · have hr1 := Lib.hid hr1
    have hrow : GRow w3 (some ⟨g, 0, none⟩) qs := by rw [← hvs]; exact (o3.own (by rw [hvs]; exact hlim)).row
    have HLG2 := Lib.hid fun (w : World) hr => HLG.out w (some ⟨g, 0, none⟩) c2 hr
    obtain ⟨m, hm⟩ : ∃ m, Hid (lng qs = m) := ⟨_, rfl⟩
    rw [hm.out] at hmn HLG2 h1
    have e1 : vs[m].q = nq qs m := by rw [← hvs, qsOf_at _ _ (by omega)]
    have z0 : (nq qs k).length = 0 := h0
    rw [z0] at c0
    have HLN : Hid (r.length = n) := Lib.hid (by rw [hr1.out, List.length_set]; exact hn.out)
    have hr2 := hr1.out
    rw [hm.out] at hr2 ha
    have HR := Lib.hid hr2
    have HL := Lib.hid fun (w : World) o hg => gfirst_any (w := w) (B := w1.heap.size) (c := c2) (g := g) (k := m) (n := n) (vs := vs) o (by rw [hvs]; exact hlim) hB hg hvl (by omega) hmn (nq qs m) (by rw [hvs]) h1 a ha.symm
    clear h0 z0 hr2 ha
    go_wp2_with fail
    go_at_call 29
    refine (HLG2.out _ hrow).mono ?_
    rintro e w4 ⟨rfl, hb_w4⟩
    have hs4 := hb_w4.size
    have b4 : Below w.heap.size w w4 := (by repeat (first | exact Below.refl _ _ | assumption | (refine below_drewN ?_ _) | (refine Below.drew ?_) | (refine Below.alloc ?_ (by first | omega | (simp; omega) | simp) _) | (refine Below.setCell ?_ (by first | omega | (simp; omega) | simp) _) | (refine below_trans ?_ (by assumption) (by first | omega | (simp; omega) | simp))))
    have Q := Q.later hb_w4
    have T := T.later hb_w4
    have o4 := o3.later hb_w4
    have c1 := o4.cell m (by omega)
    rw [e1] at c1
    obtain ⟨q0, q1⟩ := id Q
    obtain ⟨t0, t1⟩ := id T
    have j1 : (m : Int) < (n : Int) := by omega
    have j2 : (0 : Int) ≤ (m : Int) := by omega
    have hg4' : g < w4.heap.size := by omega
    have d1 : (((nq qs m).length : Int) == 0) = false := beq_eq_false_iff_ne.2 (by omega)
    have d2 : ¬ (nq qs m).length = 0 := by omega
    have HVSX := Lib.hid hvs
    clear o3 hrow hvs e1
    generalize vs[m].A = uA at c1
    generalize vs[m].c = uc at c1
    generalize (nq qs m).length = L at *
    go_wp2_with fail
    go_at_call 30
    refine (HL.out _ o4 hg4').mono ?_
    rintro e w5 ⟨rfl, o5, hg5⟩
    have hs5 := hg5.size
    have b5 : Below w.heap.size w w5 := b4.grown hg5 (by omega) (fun k hk => by cases hk; omega)
    obtain ⟨q0, q1⟩ := (Q.grown hg5 (by omega) : Bx w5 _ _)
    obtain ⟨t0, t1⟩ := (T.grown hg5 (by omega) : Bx w5 _ _)
    rw [HVSX.out, ← HR.out] at o5
    have HO := Lib.hid (o5.far (p := ⟨w.heap.size + 1, 0, none⟩) (by show _ < w1.heap.size; omega) (.slice (some ⟨g, 0, none⟩) n c2))
    clear o5 hg5 Q T o4
    go_wp2
    exact bodyPost_ret (res_g4 rfl rfl (g := w.heap.size + 1) (v0 := .slice (some ⟨g, 0, none⟩) n c2) (by first | exact World.cell?_setCell_same _ _ _ q0 | exact World.cell?_setCell_same _ _ _ (by first | exact q0 | (exact (World.cell?_alloc_lt _ _ ⟨_, _, _⟩ (by first | omega | (simp; omega) | simp)).trans q0) | (exact (World.cell?_alloc_lt _ _ ⟨_, _, _⟩ (by first | omega | (simp; omega) | simp)).trans ((World.cell?_alloc_lt _ _ ⟨_, _, _⟩ (by first | omega | (simp; omega) | simp)).trans q0)) | (simp [go_sem, q0]; done)) | exact (World.cell?_alloc_lt _ _ ⟨_, _, _⟩ (by first | omega | (simp; omega) | simp)).trans (World.cell?_setCell_same _ _ _ q0) | (simp [go_sem, q0]; done))) rfl ⟨some ⟨g, 0, none⟩, c2, by rw [HLN.out]; rfl, HO.out.mono (by omega), (by repeat (first | exact Below.refl _ _ | assumption | (refine below_drewN ?_ _) | (refine Below.drew ?_) | (refine Below.alloc ?_ (by first | omega | (simp; omega) | simp) _) | (refine Below.setCell ?_ (by first | omega | (simp; omega) | simp) _) | (refine below_trans ?_ (by assumption) (by first | omega | (simp; omega) | simp))))⟩
end
end Go.Proofs.Ytlaladhnidcoiaa
