/- Contract of grey.Push. -/
import Derived.Test.YtlaladhnidcoiaaG7
namespace Go.Proofs.Ytlaladhnidcoiaa
open Go.RowKit
set_option linter.unusedVariables false
set_option linter.unusedSimpArgs false

theorem grownBy_drew (w : World) (row : Option Nat) : w.grownBy w.drew row := by
  have hb : Below w.heap.size w w.drew := (by repeat (first | exact Below.refl _ _ | assumption | (refine below_drewN ?_ _) | (refine Below.drew ?_) | (refine Below.alloc ?_ (by first | omega | (simp; omega) | simp) _) | (refine Below.setCell ?_ (by first | omega | (simp; omega) | simp) _) | (refine below_trans ?_ (by assumption) (by first | omega | (simp; omega) | simp))))
  exact ⟨hb.os, hb.tape, hb.output, hb.size, fun i hi _ => hb.block i hi⟩
theorem grown_cell {w w5 : World} {row : Option Nat} (hg : w.grownBy w5 row) {b : Nat} (o : Nat) (hb : b < w.heap.size) (hne : row ≠ some b) : w5.cell? ⟨b, o, none⟩ = w.cell? ⟨b, o, none⟩ ∧ w5.frozen? ⟨b, o, none⟩ = w.frozen? ⟨b, o, none⟩ :=
  ⟨World.cell?_of_block (hg.block b hb (fun e => hne e.symm)), World.frozen?_of_block (hg.block b hb (fun e => hne e.symm))⟩
theorem GTwin.rowAt {w : World} {B cap : Nat} {A : Option Addr} {vs : List Qv} (h : GTwin w B A cap vs) (i : Nat) (hi : i < vs.length) (b : Nat) (e : (vs[i].A.map fun a => a.block) = some b) : B ≤ b ∧ b < w.heap.size ∧ vs[i].A = some ⟨b, 0, none⟩ := by
  rcases (h.rows i hi).adr with h1 | ⟨g', h1, h2, h3⟩
  · rw [h1] at e; cases e
  · rw [h1] at e ⊢
    injection e with e
    have e : g' = b := e
    subst e
    exact ⟨h2, h3, rfl⟩
def PushG (w : World) (r : List (List Nat)) (y : Int) (e : Ending) (w' : World) : Prop := ∃ (B : Option Addr) (cb : Nat), e = .returned (.tuple #[gv B r.length cb, .int .i64 y]) ∧ GOwn w' w.heap.size B r ∧ Below w.heap.size w w'
theorem qlim_set {qs : List (List Nat)} (h : QLim qs) (k : Nat) (q : List Nat) (hq : q.length ≤ 17592186044416) : QLim (qs.set k q) := by
  refine ⟨by rw [List.length_set]; exact h.many, fun i => ?_⟩
  by_cases hk : k < qs.length
  · rw [nq_set _ _ _ _ hk]
    split
    · exact hq
    · exact h.each i
  · rw [List.set_eq_of_length_le (by omega)]
    exact h.each i
theorem vals_app (a b : List Nat) : vals (a ++ b) = vals a ++ vals b := by simp [vals]
theorem row_news {w : World} {A : Option Addr} {us : List Nat} (h : Row w w.heap.size A us) (w2 : World) (hk : ∀ b o, b < w.heap.size → w2.cell? ⟨b, o, none⟩ = w.cell? ⟨b, o, none⟩) : 0 < us.length → ∃ b off, A = some ⟨b, off, none⟩ ∧ ∀ j u, (vals us)[j]? = some u → w2.cell? ⟨b, off + j, none⟩ = some u := fun h0 => by
  obtain ⟨b, off, e, hb, hc⟩ := h.at_ h0
  refine ⟨b, off, e, fun j u hj => ?_⟩
  have hjl : j < us.length := by
    have := (List.getElem?_eq_some_iff.1 hj).1
    rwa [length_vals] at this
  rw [vals_at us j hjl] at hj
  injection hj with hj
  subst hj
  rw [hk _ _ hb]
  exact hc j hjl
section
variable {w : World} {A U : Option Addr} {qs : List (List Nat)} {us : List Nat} (cap cu : Nat)
set_option maxHeartbeats 4000000 in
theorem gpush_any (hr : GRow w A qs) (x : Int) (hx : -9223372036854775808 ≤ x ∧ x ≤ 9223372036854775807) (hu : Row w w.heap.size U us) (hul : us.length ≤ 17592186044416) (r : List (List Nat)) (y : Int) (hE : PushE qs x us r y) :
    Calls Try.prog 10 #[gv A qs.length cap, .int .i64 x, .slice U us.length cu] w fun e w' => PushG w r y e w' := by
  unfold PushG
  have hlim := hr.lim
  by_cases hok : OkG qs
  rotate_left
  · have HV := Lib.hid fun (w : World) hr => gview_bad (w := w) (A := A) (qs := qs) cap hr hok
    have e1 : r = [] ∧ y = 2 := by
      rcases hE with ⟨_, h⟩ | ⟨h, _⟩ | ⟨h, _⟩ | ⟨h, _⟩
      · exact h
      all_goals exact absurd h hok
    obtain ⟨rfl, rfl⟩ := e1
    clear hE hok
    unfold gv at *
    go_enter Try.func10, Try.ntmps10
    go_wp2_with fail
    go_at_call 23
    refine (HV.out _ (hr.later (by repeat (first | exact Below.refl _ _ | assumption | (refine below_drewN ?_ _) | (refine Below.drew ?_) | (refine Below.alloc ?_ (by first | omega | (simp; omega) | simp) _) | (refine Below.setCell ?_ (by first | omega | (simp; omega) | simp) _) | (refine below_trans ?_ (by assumption) (by first | omega | (simp; omega) | simp)))))).mono ?_
    rintro e w1 ⟨rfl, hb_w1⟩
    obtain ⟨hc_w1, hf_w1⟩ := bcell hb_w1; have hz_w1_w_0 : w.heap.size < w1.heap.size := (by have hzz := hb_w1.size; (try simp only [World.size_alloc, World.size_setCell, World.size_drew, World.heap_drewN] at hzz); omega); have hz_w1_w_1 : w.heap.size + 1 < w1.heap.size := (by have hzz := hb_w1.size; (try simp only [World.size_alloc, World.size_setCell, World.size_drew, World.heap_drewN] at hzz); omega); have hs_w1 := hb_w1.size; (try simp only [World.size_alloc, World.size_setCell, World.size_drew, World.heap_drewN] at hs_w1)
    obtain ⟨q0, q1⟩ := ((Bx.new (w.alloc _) _ _).later hb_w1 : Bx w1 _ _)
    simp only [World.size_alloc] at q0 q1
    clear hc_w1 hf_w1
    go_wp2
    exact bodyPost_ret (res_g2 rfl rfl (g := w.heap.size + 1) (v0 := .slice none 0 0) (by first | exact World.cell?_setCell_same _ _ _ q0 | exact World.cell?_setCell_same _ _ _ (by first | exact q0 | (exact (World.cell?_alloc_lt _ _ ⟨_, _, _⟩ (by first | omega | (simp; omega) | simp)).trans q0) | (exact (World.cell?_alloc_lt _ _ ⟨_, _, _⟩ (by first | omega | (simp; omega) | simp)).trans ((World.cell?_alloc_lt _ _ ⟨_, _, _⟩ (by first | omega | (simp; omega) | simp)).trans q0)) | (simp [go_sem, q0]; done)) | exact (World.cell?_alloc_lt _ _ ⟨_, _, _⟩ (by first | omega | (simp; omega) | simp)).trans (World.cell?_setCell_same _ _ _ q0) | (simp [go_sem, q0]; done))) rfl ⟨none, 0, rfl, GOwn.nil _ _ _, (by repeat (first | exact Below.refl _ _ | assumption | (refine below_drewN ?_ _) | (refine Below.drew ?_) | (refine Below.alloc ?_ (by first | omega | (simp; omega) | simp) _) | (refine Below.setCell ?_ (by first | omega | (simp; omega) | simp) _) | (refine below_trans ?_ (by assumption) (by first | omega | (simp; omega) | simp))))⟩
  have HV := Lib.hid fun (w : World) hr => gview_ok (w := w) (A := A) (qs := qs) cap hr hok
  have HT := Lib.hid fun (w : World) hr => gtwin_any (w := w) (A := A) (qs := qs) cap hr hok.lo hok.hi
  unfold TwinG at HT
  have HHN := Lib.hid fun (w : World) (c : Nat) b hb => ghas_any (w := w) (A := none) c qs.length (by have := hok.hi; omega) x hx b hb
  by_cases hh : hasG qs x
  rotate_left
  · have e1 : r = qs ∧ y = 11 := by
      rcases hE with ⟨h, _⟩ | ⟨_, _, h⟩ | ⟨_, h, _⟩ | ⟨_, h, _⟩
      · exact absurd hok h
      · exact h
      all_goals exact absurd h hh
    obtain ⟨rfl, rfl⟩ := e1
    have hb0 : (false = true ↔ (0 ≤ x ∧ x < (r.length : Nat))) := ⟨fun h => (by cases h), fun h => absurd h hh⟩
    have HH := Lib.hid fun (w : World) (B : Option Addr) (c : Nat) => ghas_any (w := w) (A := B) c r.length (by have := hok.hi; omega) x hx false hb0
    clear hE hok hh hb0 HHN
    unfold gv at *
    go_enter Try.func10, Try.ntmps10
    go_wp2_with fail
    go_at_call 23
    refine (HV.out _ (hr.later (by repeat (first | exact Below.refl _ _ | assumption | (refine below_drewN ?_ _) | (refine Below.drew ?_) | (refine Below.alloc ?_ (by first | omega | (simp; omega) | simp) _) | (refine Below.setCell ?_ (by first | omega | (simp; omega) | simp) _) | (refine below_trans ?_ (by assumption) (by first | omega | (simp; omega) | simp)))))).mono ?_
    rintro e w1 ⟨⟨M, rfl, hM, hS⟩, hb_w1⟩
    obtain ⟨hc_w1, hf_w1⟩ := bcell hb_w1; have hz_w1_w_0 : w.heap.size < w1.heap.size := (by have hzz := hb_w1.size; (try simp only [World.size_alloc, World.size_setCell, World.size_drew, World.heap_drewN] at hzz); omega); have hz_w1_w_1 : w.heap.size + 1 < w1.heap.size := (by have hzz := hb_w1.size; (try simp only [World.size_alloc, World.size_setCell, World.size_drew, World.heap_drewN] at hzz); omega); have hs_w1 := hb_w1.size; (try simp only [World.size_alloc, World.size_setCell, World.size_drew, World.heap_drewN] at hs_w1)
    have b1 : Below w.heap.size w w1 := (by repeat (first | exact Below.refl _ _ | assumption | (refine below_drewN ?_ _) | (refine Below.drew ?_) | (refine Below.alloc ?_ (by first | omega | (simp; omega) | simp) _) | (refine Below.setCell ?_ (by first | omega | (simp; omega) | simp) _) | (refine below_trans ?_ (by assumption) (by first | omega | (simp; omega) | simp))))
    have Q := ((Bx.new (w.alloc _) _ _).later hb_w1 : Bx w1 _ _)
    have P := ((Bx.new w _ _).alloc _ |>.later hb_w1 : Bx w1 _ _)
    simp only [World.size_alloc] at Q
    obtain ⟨p0, p1⟩ := id P
    clear hc_w1 hf_w1
    go_wp2_with fail
    go_at_call 24
    refine (HT.out _ ((hr.later b1).later (by repeat (first | exact Below.refl _ _ | assumption | (refine below_drewN ?_ _) | (refine Below.drew ?_) | (refine Below.alloc ?_ (by first | omega | (simp; omega) | simp) _) | (refine Below.setCell ?_ (by first | omega | (simp; omega) | simp) _) | (refine below_trans ?_ (by assumption) (by first | omega | (simp; omega) | simp)))))).mono ?_
    rintro e w2 ⟨B2, c2, vs, rfl, hvs, o2, hb_w2⟩
    obtain ⟨hc_w2, hf_w2⟩ := bcell hb_w2; have hs_w2 := hb_w2.size; (try simp only [World.size_alloc, World.size_setCell, World.size_drew, World.heap_drewN] at hs_w2)
    have b2 : Below w.heap.size w w2 := (by repeat (first | exact Below.refl _ _ | assumption | (refine below_drewN ?_ _) | (refine Below.drew ?_) | (refine Below.alloc ?_ (by first | omega | (simp; omega) | simp) _) | (refine Below.setCell ?_ (by first | omega | (simp; omega) | simp) _) | (refine below_trans ?_ (by assumption) (by first | omega | (simp; omega) | simp))))
    have Q := (Q.later hb_w2 : Bx w2 _ _)
    clear hc_w2 hf_w2
    go_wp2_with fail
    go_at_call 25
    refine (HH.out _ _ _).mono ?_
    rintro e w3 ⟨rfl, hb_w3⟩
    obtain ⟨hc_w3, hf_w3⟩ := bcell hb_w3; have hz_w3_w2_0 : w2.heap.size < w3.heap.size := (by have hzz := hb_w3.size; (try simp only [World.size_alloc, World.size_setCell, World.size_drew, World.heap_drewN] at hzz); omega); have hs_w3 := hb_w3.size; (try simp only [World.size_alloc, World.size_setCell, World.size_drew, World.heap_drewN] at hs_w3)
    have b3 : Below w.heap.size w w3 := (by repeat (first | exact Below.refl _ _ | assumption | (refine below_drewN ?_ _) | (refine Below.drew ?_) | (refine Below.alloc ?_ (by first | omega | (simp; omega) | simp) _) | (refine Below.setCell ?_ (by first | omega | (simp; omega) | simp) _) | (refine below_trans ?_ (by assumption) (by first | omega | (simp; omega) | simp))))
    have Q := ((Q.alloc _).later hb_w3 : Bx w3 _ _)
    have T := ((Bx.new w2 _ _).later hb_w3 : Bx w3 _ _)
    have o3 := ((o2.later ((Below.refl _ _).alloc (Nat.le_refl _) _)).later hb_w3)
    have HO := Lib.hid ((o3.far (p := ⟨w.heap.size + 1, 0, none⟩) (by show _ < w1.heap.size; omega) (.slice B2 r.length c2)).own (by rw [hvs]; exact hlim))
    rw [hvs] at HO
    obtain ⟨q0, q1⟩ := id Q
    obtain ⟨t0, t1⟩ := id T
    have n1 : ¬ (w2.heap.size = w.heap.size + 1) := by omega
    have n2 : ¬ (w.heap.size + 1 = w2.heap.size) := by omega
    clear hc_w3 hf_w3 o2 o3
    go_wp2
    exact bodyPost_ret (res_g2 rfl rfl (g := w.heap.size + 1) (v0 := .slice B2 r.length c2) (by first | exact World.cell?_setCell_same _ _ _ q0 | exact World.cell?_setCell_same _ _ _ (by first | exact q0 | (exact (World.cell?_alloc_lt _ _ ⟨_, _, _⟩ (by first | omega | (simp; omega) | simp)).trans q0) | (exact (World.cell?_alloc_lt _ _ ⟨_, _, _⟩ (by first | omega | (simp; omega) | simp)).trans ((World.cell?_alloc_lt _ _ ⟨_, _, _⟩ (by first | omega | (simp; omega) | simp)).trans q0)) | (simp [go_sem, q0]; done)) | exact (World.cell?_alloc_lt _ _ ⟨_, _, _⟩ (by first | omega | (simp; omega) | simp)).trans (World.cell?_setCell_same _ _ _ q0) | (simp [go_sem, q0]; done))) rfl ⟨B2, c2, rfl, HO.out.mono (by omega), (by repeat (first | exact Below.refl _ _ | assumption | (refine below_drewN ?_ _) | (refine Below.drew ?_) | (refine Below.alloc ?_ (by first | omega | (simp; omega) | simp) _) | (refine Below.setCell ?_ (by first | omega | (simp; omega) | simp) _) | (refine below_trans ?_ (by assumption) (by first | omega | (simp; omega) | simp))))⟩
  have hlo := hok.lo
  have hhi := hok.hi
  obtain ⟨k, rfl⟩ := Int.eq_ofNat_of_zero_le hh.1
  have hkn : k < qs.length := by have := hh.2; omega
  have hb0 : (true = true ↔ (0 ≤ (k : Int) ∧ (k : Int) < (qs.length : Nat))) := ⟨fun _ => hh, fun _ => rfl⟩
  have HH := Lib.hid fun (w : World) (B : Option Addr) (c : Nat) => ghas_any (w := w) (A := B) c qs.length (by omega) (k : Int) hx true hb0
  have HY : Hid (addsErr qs.flatten us = y ∧ (y ≠ 0 → r = qs) ∧ (y = 0 → r = qs.set k (nq qs k ++ us))) := Lib.hid (by
    rcases hE with ⟨h, _⟩ | ⟨_, h, _⟩ | ⟨_, _, h1, h2, h3⟩ | ⟨_, _, h1, h2, h3⟩
    · exact absurd hok h
    · exact absurd hh h
    · exact ⟨h1, fun _ => h3, fun h => absurd h h2⟩
    · exact ⟨h1.trans h2.symm, fun h => absurd h2 h, fun _ => h3⟩)
  have hgood : GoodP qs.flatten := ⟨hok.nz, hok.nd, hok.len⟩
  have HGD := Lib.hid hgood
  have hql : (nq qs k).length ≤ 16384 := Nat.le_trans (nq_len_le qs k) hok.len
  obtain ⟨n, hn⟩ : ∃ n, Hid (qs.length = n) := ⟨_, rfl⟩
  rw [hn.out] at hlo hhi hkn
  rw [hn.out] at HV HT HH ⊢
  clear hE hok hh hb0 HHN hgood
  unfold gv at *
  go_enter Try.func10, Try.ntmps10
  go_wp2_with fail
  go_at_call 23
  refine (HV.out _ (hr.later (by repeat (first | exact Below.refl _ _ | assumption | (refine below_drewN ?_ _) | (refine Below.drew ?_) | (refine Below.alloc ?_ (by first | omega | (simp; omega) | simp) _) | (refine Below.setCell ?_ (by first | omega | (simp; omega) | simp) _) | (refine below_trans ?_ (by assumption) (by first | omega | (simp; omega) | simp)))))).mono ?_
  rintro e w1 ⟨⟨M, rfl, hM, hS⟩, hb_w1⟩
  obtain ⟨hc_w1, hf_w1⟩ := bcell hb_w1; have hz_w1_w_0 : w.heap.size < w1.heap.size := (by have hzz := hb_w1.size; (try simp only [World.size_alloc, World.size_setCell, World.size_drew, World.heap_drewN] at hzz); omega); have hz_w1_w_1 : w.heap.size + 1 < w1.heap.size := (by have hzz := hb_w1.size; (try simp only [World.size_alloc, World.size_setCell, World.size_drew, World.heap_drewN] at hzz); omega); have hs_w1 := hb_w1.size; (try simp only [World.size_alloc, World.size_setCell, World.size_drew, World.heap_drewN] at hs_w1)
  simp only [World.size_alloc] at hM
  have hMl := hS.lt
  have b1 : Below w.heap.size w w1 := (by repeat (first | exact Below.refl _ _ | assumption | (refine below_drewN ?_ _) | (refine Below.drew ?_) | (refine Below.alloc ?_ (by first | omega | (simp; omega) | simp) _) | (refine Below.setCell ?_ (by first | omega | (simp; omega) | simp) _) | (refine below_trans ?_ (by assumption) (by first | omega | (simp; omega) | simp))))
  have Q := ((Bx.new (w.alloc _) _ _).later hb_w1 : Bx w1 _ _)
  have P := ((Bx.new w _ _).alloc _ |>.later hb_w1 : Bx w1 _ _)
  simp only [World.size_alloc] at Q
  obtain ⟨p0, p1⟩ := id P
  clear hc_w1 hf_w1
  go_wp2_with fail
  go_at_call 24
  refine (HT.out _ ((hr.later b1).later (by repeat (first | exact Below.refl _ _ | assumption | (refine below_drewN ?_ _) | (refine Below.drew ?_) | (refine Below.alloc ?_ (by first | omega | (simp; omega) | simp) _) | (refine Below.setCell ?_ (by first | omega | (simp; omega) | simp) _) | (refine below_trans ?_ (by assumption) (by first | omega | (simp; omega) | simp)))))).mono ?_
  rintro e w2 ⟨B2, c2, vs, rfl, hvs, o2, hb_w2⟩
  obtain ⟨hc_w2, hf_w2⟩ := bcell hb_w2; have hs_w2 := hb_w2.size; (try simp only [World.size_alloc, World.size_setCell, World.size_drew, World.heap_drewN] at hs_w2)
  have b2 : Below w.heap.size w w2 := (by repeat (first | exact Below.refl _ _ | assumption | (refine below_drewN ?_ _) | (refine Below.drew ?_) | (refine Below.alloc ?_ (by first | omega | (simp; omega) | simp) _) | (refine Below.setCell ?_ (by first | omega | (simp; omega) | simp) _) | (refine below_trans ?_ (by assumption) (by first | omega | (simp; omega) | simp))))
  have Q := (Q.later hb_w2 : Bx w2 _ _)
  have hS := hS.later hb_w2
  have hvl : vs.length = n := by rw [← qsOf_len, hvs]; exact hn.out
  obtain ⟨g, rfl, hg1, hg2⟩ := o2.adr (by omega)
  clear hc_w2 hf_w2
  go_wp2_with fail
  go_at_call 25
  refine (HH.out _ _ _).mono ?_
  rintro e w3 ⟨rfl, hb_w3⟩
  obtain ⟨hc_w3, hf_w3⟩ := bcell hb_w3; have hz_w3_w2_0 : w2.heap.size < w3.heap.size := (by have hzz := hb_w3.size; (try simp only [World.size_alloc, World.size_setCell, World.size_drew, World.heap_drewN] at hzz); omega); have hs_w3 := hb_w3.size; (try simp only [World.size_alloc, World.size_setCell, World.size_drew, World.heap_drewN] at hs_w3)
  have b3 : Below w.heap.size w w3 := (by repeat (first | exact Below.refl _ _ | assumption | (refine below_drewN ?_ _) | (refine Below.drew ?_) | (refine Below.alloc ?_ (by first | omega | (simp; omega) | simp) _) | (refine Below.setCell ?_ (by first | omega | (simp; omega) | simp) _) | (refine below_trans ?_ (by assumption) (by first | omega | (simp; omega) | simp))))
  have Q := ((Q.alloc _).later hb_w3 : Bx w3 _ _)
  have T := ((Bx.new w2 _ _).later hb_w3 : Bx w3 _ _)
  have o3 := ((o2.later ((Below.refl _ _).alloc (Nat.le_refl _) _)).later hb_w3)
  have hS := ((hS.later ((Below.refl _ _).alloc (Nat.le_refl _) _)).later hb_w3)
  have HVS := Lib.hid hvs
  have HVL := Lib.hid hvl
  have hs21 : w1.heap.size ≤ w2.heap.size := hb_w2.size
  have hrw := fun i hi b e => o2.rowAt i hi b e
  have hof := fun i hi => o2.off i hi g rfl
  clear hc_w3 hf_w3 o2 hvs p0 p1 P
  go_wp2_with fail
  go_loopw [32] (fun jj wr => ∃ j : Nat, jj = .int .i64 (j : Nat) ∧ j ≤ us.length ∧ Hid (OkTo qs.flatten us j) ∧ SetM wr M (qs.flatten ++ us.take j) ∧ GTwin wr w1.heap.size (some ⟨g, 0, none⟩) c2 vs ∧ Bx wr (w.heap.size + 1) (.slice none 0 0) ∧ Bx wr w2.heap.size (.slice (some ⟨g, 0, none⟩) n c2) ∧ w3.heap.size ≤ wr.heap.size ∧ Below w.heap.size w wr) (fun jj _ => us.length - (intOf jj).toNat)
  case atStart => exact ⟨0, rfl, Nat.zero_le _, Lib.hid (okTo_zero _ _), by simpa using hS, o3, Q, T, Nat.le_refl _, b3⟩
  case round =>
    clear hS o3 Q T b3 b1 b2
    obtain ⟨j, rfl, hj, HO, hS, o4, Q, T, hsz, hb_wr⟩ := hrel
    obtain ⟨q0, q1⟩ := id Q
    obtain ⟨t0, t1⟩ := id T
    have hMr := hS.lt
    have hsr : w.heap.size ≤ wr.heap.size := hb_wr.size
    obtain ⟨g1, g2, g3⟩ := okTo_good HGD.out.nz HGD.out.nd HGD.out.len j HO.out hj
    have n1 : ¬ (w2.heap.size = w.heap.size + 1) := by omega
    have n2 : ¬ (w.heap.size + 1 = w2.heap.size) := by omega
    by_cases hlt : j < us.length
    · have hur := hu.later hb_wr
      have hxw := hu.words.at_ j
      obtain ⟨b, off, rfl, hbb, c1⟩ := hur.cellAt (k := j) hlt
      have HTN := Lib.hid (take_next us j hlt)
      have i1 : (j : Int) < (us.length : Int) := by omega
      have i2 : (0 : Int) ≤ (j : Int) := by omega
      obtain ⟨a, ha⟩ : ∃ a, Hid (us.getD j 0 = a) := ⟨_, rfl⟩
      rw [ha.out] at c1 hxw
      have HA := Lib.hid fun y hy => madd_any (w := wr) hS g2 g3 a hxw y hy
      by_cases he : addErr (qs.flatten ++ us.take j) a = 0
      · have HO2 : Hid (OkTo qs.flatten us (j + 1)) := Lib.hid (okTo_next HO.out (by rw [ha.out]; exact he))
        have HE := Lib.hid he
        clear he hS g1 g2 g3
        go_wp2_with fail
        go_at_call 26
        refine (HA.out 0 HE.out).mono ?_
        rintro e w4 ⟨rfl, hS4, hg4⟩
        have hs4 := hg4.size
        have b4 : Below w.heap.size w w4 := hb_wr.grown hg4 hsr (fun k hk => by cases hk; omega)
        rw [if_pos rfl, List.append_assoc, ← ha.out, ← HTN.out] at hS4
        have o5 := o4.kept hg4 hMl
        have Q5 := Q.grown hg4 (by omega)
        have T5 := T.grown hg4 (by omega)
        go_wp2
        go_roundw
        case rel => exact ⟨j + 1, by go_num, by omega, HO2, hS4, o5, Q5, T5, by omega, b4⟩
        case measure => simp [intOf]; omega
      · have he2 : addErr (qs.flatten ++ us.take j) a = y := by
          have := adds_hit HO.out hlt (e := addErr (qs.flatten ++ us.take j) a) (by rw [ha.out]) he
          rw [← this]
          exact HY.out.1
        rw [he2] at he
        obtain rfl := HY.out.2.1 he
        have hy0 : (y != 0) = true := by simpa using he
        have HE2 := Lib.hid he2
        clear he he2 hS g1 g2 g3
        go_wp2_with fail
        go_at_call 26
        refine (HA.out y HE2.out).mono ?_
        rintro e w4 ⟨rfl, hS4, hg4⟩
        have hs4 := hg4.size
        have b4 : Below w.heap.size w w4 := hb_wr.grown hg4 hsr (fun k hk => by cases hk; omega)
        have o5 := o4.kept hg4 hMl
        obtain ⟨q0, q1⟩ := (Q.grown hg4 (by omega) : Bx w4 _ _)
        obtain ⟨t0, t1⟩ := (T.grown hg4 (by omega) : Bx w4 _ _)
        have HOW := Lib.hid ((o5.far (p := ⟨w.heap.size + 1, 0, none⟩) (by show _ < w1.heap.size; omega) (.slice (some ⟨g, 0, none⟩) n c2)).own (by rw [HVS.out]; exact hlim))
        rw [HVS.out] at HOW
        go_wp2
        exact bodyPost_ret (res_g2 rfl rfl (g := w.heap.size + 1) (v0 := .slice (some ⟨g, 0, none⟩) n c2) (by first | exact World.cell?_setCell_same _ _ _ q0 | exact World.cell?_setCell_same _ _ _ (by first | exact q0 | (exact (World.cell?_alloc_lt _ _ ⟨_, _, _⟩ (by first | omega | (simp; omega) | simp)).trans q0) | (exact (World.cell?_alloc_lt _ _ ⟨_, _, _⟩ (by first | omega | (simp; omega) | simp)).trans ((World.cell?_alloc_lt _ _ ⟨_, _, _⟩ (by first | omega | (simp; omega) | simp)).trans q0)) | (simp [go_sem, q0]; done)) | exact (World.cell?_alloc_lt _ _ ⟨_, _, _⟩ (by first | omega | (simp; omega) | simp)).trans (World.cell?_setCell_same _ _ _ q0) | (simp [go_sem, q0]; done))) rfl ⟨some ⟨g, 0, none⟩, c2, by rw [hn.out]; rfl, HOW.out.mono (by omega), (by repeat (first | exact Below.refl _ _ | assumption | (refine below_drewN ?_ _) | (refine Below.drew ?_) | (refine Below.alloc ?_ (by first | omega | (simp; omega) | simp) _) | (refine Below.setCell ?_ (by first | omega | (simp; omega) | simp) _) | (refine below_trans ?_ (by assumption) (by first | omega | (simp; omega) | simp))))⟩
    · obtain rfl : j = us.length := by omega
      have hy : y = 0 := by rw [← HY.out.1]; exact adds_end HO.out
      subst hy
      obtain rfl := HY.out.2.2 rfl
      have hkl : k < vs.length := by omega
      have hro := o4.rows k hkl
      have c0 := o4.cell k hkl
      have f0 := o4.hd.frozenAt k
      have hqe : vs[k].q = nq qs k := by rw [← HVS.out, qsOf_at _ _ hkl]
      have HQE := Lib.hid hqe
      rw [hqe] at hro c0
      obtain ⟨q, HQ⟩ : ∃ q, Hid (nq qs k = q) := ⟨_, rfl⟩
      rw [HQ.out] at hro c0 hql
      have hL : us.length ≤ 16384 := by
        rw [List.take_length, List.length_append] at g3
        omega
      have hur := hu.later hb_wr
      have hgw : g < wr.heap.size := by omega
      have hgB : w1.heap.size ≤ g := hg1
      have HPUT := Lib.hid fun (w5 : World) (A' : Option Addr) (c' : Nat) h5 ho hA => gtwin_put (w5 := w5) (L' := q.length + us.length) (c' := c') (q' := q ++ us) (A' := A') o4 hgw hkl h5 ho hA
      have HW : Hid (Words (q ++ us)) := Lib.hid (fun z hz => by
        rcases List.mem_append.1 hz with hz | hz
        · exact hro.words z hz
        · exact hu.words z hz)
      have ng : g ≠ w2.heap.size := by omega
      have ng2 : g ≠ w.heap.size + 1 := by omega
      have hkA : ∀ b, (vs[k].A.map fun a => a.block) = some b → b ≠ w2.heap.size ∧ b ≠ w.heap.size + 1 ∧ b ≠ g := fun b e => by
        obtain ⟨h1, h2, h3⟩ := hrw k hkl b e
        refine ⟨by omega, by omega, fun e2 => hof k hkl (by rw [h3, e2])⟩
      have i1 : (k : Int) < (n : Int) := by omega
      have i2 : (0 : Int) ≤ (k : Int) := by omega
      generalize vs[k].A = vA at *
      generalize vs[k].c = vc at *
      clear g1 g2 g3 hS hqe
      go_wp2_with fail
      refine wp_region_held_drew (S := (fun X : World => X.cell? ⟨w2.heap.size, 0, none⟩ = some (.slice (some ⟨g, 0, none⟩) n c2))) (by kernel_rfl) ?_ (fun hHeld => ?_)
      · (try dsimp only); (first | assumption | exact (World.cell?_setCell_other _ _ _ _ (by intro e; injection e with e1; exact ng e1.symm)).trans (by assumption) | exact (World.cell?_setCell_other _ _ _ _ (by intro e; injection e with e1; exact ng e1)).trans (by assumption))
      refine wpAnyH_take (i := 0) (v := ?_) rfl (by kernel_rfl) (by kernel_rfl) (by kernel_rfl) (fun _ _ _ h => h) (Or.inl ⟨by rfl, ?_⟩) (by assumption) ?_
      rotate_left
      · (intro w hSw; (try dsimp only at hSw); go_simp; first | done | with_reducible rfl)
      try simp only [Act.put, List.getElem_toArray, List.getElem_cons_zero, List.getElem_cons_succ, List.setIfInBounds_toArray, List.set_cons_zero, List.set_cons_succ]
      refine wpAnyH_take (i := 1) (v := ?_) rfl (by kernel_rfl) (by kernel_rfl) (by kernel_rfl) (fun _ _ _ h => h) (Or.inl ⟨by rfl, ?_⟩) (by assumption) ?_
      rotate_left
      · (intro w hSw; (try dsimp only at hSw); go_simp; first | done | with_reducible rfl)
      try simp only [Act.put, List.getElem_toArray, List.getElem_cons_zero, List.getElem_cons_succ, List.setIfInBounds_toArray, List.set_cons_zero, List.set_cons_succ]
      refine wpAnyH_take (i := 2) (v := ?_) rfl (by kernel_rfl) (by kernel_rfl) (by kernel_rfl) (fun _ _ _ h => h) (Or.inl ⟨by rfl, ?_⟩) (by assumption) ?_
      rotate_left
      · (intro w hSw; (try dsimp only at hSw); go_simp; first | done | with_reducible rfl)
      try simp only [Act.put, List.getElem_toArray, List.getElem_cons_zero, List.getElem_cons_succ, List.setIfInBounds_toArray, List.set_cons_zero, List.set_cons_succ]
      refine wpAnyH_take (i := 3) (v := ?_) rfl (by kernel_rfl) (by kernel_rfl) (by kernel_rfl) (fun _ _ _ h => h) (Or.inl ⟨by rfl, ?_⟩) (by assumption) ?_
      rotate_left
      · (intro w hSw; (try dsimp only at hSw); go_simp; first | done | with_reducible rfl)
      try simp only [Act.put, List.getElem_toArray, List.getElem_cons_zero, List.getElem_cons_succ, List.setIfInBounds_toArray, List.set_cons_zero, List.set_cons_succ]
      refine wpAnyH_take (i := 4) (v := ?_) rfl (by kernel_rfl) (by kernel_rfl) (by kernel_rfl) (fun _ _ _ h => h) (Or.inl ⟨by rfl, ?_⟩) (by assumption) ?_
      rotate_left
      · (intro w hSw; (try dsimp only at hSw); go_simp; first | done | with_reducible rfl)
      try simp only [Act.put, List.getElem_toArray, List.getElem_cons_zero, List.getElem_cons_succ, List.setIfInBounds_toArray, List.set_cons_zero, List.set_cons_succ]
      refine wpAnyH_take (i := 5) (v := ?_) rfl (by kernel_rfl) (by kernel_rfl) (by kernel_rfl) (fun _ _ _ h => h) (Or.inl ⟨by rfl, ?_⟩) (by assumption) ?_
      rotate_left
      · (intro w hSw; (try dsimp only at hSw); go_simp; first | done | with_reducible rfl)
      try simp only [Act.put, List.getElem_toArray, List.getElem_cons_zero, List.getElem_cons_succ, List.setIfInBounds_toArray, List.set_cons_zero, List.set_cons_succ]
      refine wpAnyH_take (i := 6) (v := ?_) rfl (by kernel_rfl) (by kernel_rfl) (by kernel_rfl) (fun _ _ _ h => h) (Or.inl ⟨by rfl, ?_⟩) (by assumption) ?_
      rotate_left
      · (intro w hSw; (try dsimp only at hSw); go_simp; first | done | with_reducible rfl)
      try simp only [Act.put, List.getElem_toArray, List.getElem_cons_zero, List.getElem_cons_succ, List.setIfInBounds_toArray, List.set_cons_zero, List.set_cons_succ]
      refine wpAnyH_take (i := 8) (v := ?_) rfl (by kernel_rfl) (by kernel_rfl) (by kernel_rfl) (fun _ _ _ h => h) (Or.inl ⟨by rfl, ?_⟩) (by assumption) ?_
      rotate_left
      · (intro w hSw; (try dsimp only at hSw); go_simp; first | done | with_reducible rfl)
      try simp only [Act.put, List.getElem_toArray, List.getElem_cons_zero, List.getElem_cons_succ, List.setIfInBounds_toArray, List.set_cons_zero, List.set_cons_succ]
      refine wpAnyH_ready (rs := [7]) (by kernel_rfl) (by simp) ?_
      refine AllReadyH.cons rfl (fun K hK => ?_) AllReadyH.nil
      try simp only [List.getElem_toArray, List.getElem_cons_zero, List.getElem_cons_succ]
      go_simp
      refine hK.out _ _ ?_ (fun hHeld => ?_)
      · (try dsimp only); (first | assumption | exact (World.cell?_setCell_other _ _ _ _ (by intro e; injection e with e1; exact ng e1.symm)).trans (by assumption) | exact (World.cell?_setCell_other _ _ _ _ (by intro e; injection e with e1; exact ng e1)).trans (by assumption))
      clear hK K
      try simp only [Act.put, List.getElem_toArray, List.getElem_cons_zero, List.getElem_cons_succ, List.setIfInBounds_toArray, List.set_cons_zero, List.set_cons_succ]
      refine wpAnyH_ready (rs := [9]) (by kernel_rfl) (by simp) ?_
      refine AllReadyH.cons rfl (fun K hK => ?_) AllReadyH.nil
      try simp only [List.getElem_toArray, List.getElem_cons_zero, List.getElem_cons_succ]
      rw [if_pos]
      rotate_left
      · rfl
      refine wp_appendQ (.tmp 51) (.tmp 52) (by rfl) w1.heap.size vA vc q.length (vals q) (by simp [Act.eval, Act.put]) hro.row_ U us.length cu (vals us) (by simp [Act.eval, Act.put]) (length_vals _) (row_news hur _ (fun _ _ _ => rfl)) (vals_one us) (by omega) (by show w1.heap.size ≤ wr.heap.size; omega) ?_
      intro A5 c5 w5 ho5 hgd5 hbd5 hA5
      have hg5 := (grownBy_drew wr _).trans hgd5
      have hb5 : Below w1.heap.size wr w5 := ((Below.refl w1.heap.size wr).drew).trans hbd5
      clear hgd5 hbd5
      have p5 : w5.cell? ⟨w2.heap.size, 0, none⟩ = some (.slice (some ⟨g, 0, none⟩) n c2) := ((grown_cell hg5 0 (show w2.heap.size < wr.heap.size by omega) (fun e => (hkA _ e).1 rfl)).1).trans t0
      have r5 : w5.cell? ⟨g, k, none⟩ = some (.slice vA q.length vc) := ((grown_cell hg5 k (show g < wr.heap.size from hgw) (fun e => (hkA _ e).2.2 rfl)).1).trans c0
      have f5 : w5.frozen? ⟨g, k, none⟩ = false := ((grown_cell hg5 k (show g < wr.heap.size from hgw) (fun e => (hkA _ e).2.2 rfl)).2).trans f0
      refine hK.out _ _ ?_ (fun hHeld => ?_)
      · (try dsimp only); (first | assumption | exact (World.cell?_setCell_other _ _ _ _ (by intro e; injection e with e1; exact ng e1.symm)).trans (by assumption) | exact (World.cell?_setCell_other _ _ _ _ (by intro e; injection e with e1; exact ng e1)).trans (by assumption))
      clear hK K
      try simp only [Act.put, List.getElem_toArray, List.getElem_cons_zero, List.getElem_cons_succ, List.setIfInBounds_toArray, List.set_cons_zero, List.set_cons_succ]
      refine wpAnyH_take (i := 10) (v := ?_) rfl (by kernel_rfl) (by kernel_rfl) (by kernel_rfl) (fun _ _ _ h => h) (Or.inl ⟨by rfl, ?_⟩) (by assumption) ?_
      rotate_left
      · (intro w hSw; (try dsimp only at hSw); go_simp; first | done | with_reducible rfl)
      try simp only [Act.put, List.getElem_toArray, List.getElem_cons_zero, List.getElem_cons_succ, List.setIfInBounds_toArray, List.set_cons_zero, List.set_cons_succ]
      refine wpAnyH_ready (rs := [11]) (by kernel_rfl) (by simp) ?_
      refine AllReadyH.cons rfl (fun K hK => ?_) AllReadyH.nil
      try simp only [List.getElem_toArray, List.getElem_cons_zero, List.getElem_cons_succ]
      go_simp
      refine hK.out _ _ ?_ (fun hHeld => ?_)
      · (try dsimp only); (first | assumption | exact (World.cell?_setCell_other _ _ _ _ (by intro e; injection e with e1; exact ng e1.symm)).trans (by assumption) | exact (World.cell?_setCell_other _ _ _ _ (by intro e; injection e with e1; exact ng e1)).trans (by assumption))
      clear hK K
      try simp only [Act.put, List.getElem_toArray, List.getElem_cons_zero, List.getElem_cons_succ, List.setIfInBounds_toArray, List.set_cons_zero, List.set_cons_succ]
      refine wpAnyH_done (by kernel_rfl) ?_ _
      have HG6 := HPUT.out w5 A5 c5 hg5 ⟨by rw [List.length_append], HW.out, by rw [vals_app]; exact ho5⟩ hA5
      have qq0 : w5.cell? ⟨w.heap.size + 1, 0, none⟩ = some (.slice none 0 0) := ((grown_cell hg5 0 (show w.heap.size + 1 < wr.heap.size by omega) (fun e => (hkA _ e).2.1 rfl)).1).trans q0
      have Q6 : (w5.setCell ⟨g, k, none⟩ (.slice A5 (q.length + us.length) c5)).cell? ⟨w.heap.size + 1, 0, none⟩ = some (.slice none 0 0) := (World.cell?_setCell_other _ _ _ _ (by intro e; injection e with e1; exact ng2 e1)).trans qq0
      have F6 : (w5.setCell ⟨g, k, none⟩ (.slice A5 (q.length + us.length) c5)).frozen? ⟨w.heap.size + 1, 0, none⟩ = false := by
        rw [World.frozen?_setCell]
        exact ((grown_cell hg5 0 (show w.heap.size + 1 < wr.heap.size by omega) (fun e => (hkA _ e).2.1 rfl)).2).trans q1
      have b6 : Below w.heap.size w (w5.setCell ⟨g, k, none⟩ (.slice A5 (q.length + us.length) c5)) := (hb_wr.trans (hb5.mono (by omega))).setCell (p := ⟨g, k, none⟩) (by show _ ≤ g; omega) _
      generalize (w5.setCell ⟨g, k, none⟩ (.slice A5 (q.length + us.length) c5)) = w6 at *
      have HOW := Lib.hid ((HG6.far (p := ⟨w.heap.size + 1, 0, none⟩) (by show _ < w1.heap.size; omega) (.slice (some ⟨g, 0, none⟩) n c2)).own (by rw [qsOf_set, HVS.out]; exact qlim_set hlim _ _ (by rw [List.length_append]; omega)))
      rw [qsOf_set, HVS.out] at HOW
      have HQQ : Hid (q ++ us = nq qs k ++ us) := Lib.hid (by rw [HQ.out])
      have HOW2 : Hid (GOwn (w6.setCell ⟨w.heap.size + 1, 0, none⟩ (.slice (some ⟨g, 0, none⟩) n c2)) w1.heap.size (some ⟨g, 0, none⟩) (qs.set k (nq qs k ++ us))) := Lib.hid (by rw [← HQ.out] at HOW; exact HOW.out)
      clear HG6 HOW HPUT ho5 hg5 hb5 p5 r5 f5 qq0
      go_wp2
      exact bodyPost_ret (res_g2 rfl rfl (g := w.heap.size + 1) (v0 := .slice (some ⟨g, 0, none⟩) n c2) (by first | exact World.cell?_setCell_same _ _ _ Q6 | exact World.cell?_setCell_same _ _ _ (by first | exact Q6 | (exact (World.cell?_alloc_lt _ _ ⟨_, _, _⟩ (by first | omega | (simp; omega) | simp)).trans Q6) | (exact (World.cell?_alloc_lt _ _ ⟨_, _, _⟩ (by first | omega | (simp; omega) | simp)).trans ((World.cell?_alloc_lt _ _ ⟨_, _, _⟩ (by first | omega | (simp; omega) | simp)).trans Q6)) | (simp [go_sem, Q6]; done)) | exact (World.cell?_alloc_lt _ _ ⟨_, _, _⟩ (by first | omega | (simp; omega) | simp)).trans (World.cell?_setCell_same _ _ _ Q6) | (simp [go_sem, Q6]; done))) rfl ⟨some ⟨g, 0, none⟩, c2, by rw [List.length_set, hn.out]; rfl, HOW2.out.mono (by omega), (by repeat (first | exact Below.refl _ _ | assumption | (refine below_drewN ?_ _) | (refine Below.drew ?_) | (refine Below.alloc ?_ (by first | omega | (simp; omega) | simp) _) | (refine Below.setCell ?_ (by first | omega | (simp; omega) | simp) _) | (refine below_trans ?_ (by assumption) (by first | omega | (simp; omega) | simp))))⟩
end
end Go.Proofs.Ytlaladhnidcoiaa
