/- Contract of the document's Push. -/
import Derived.Test.YtlaladhnidcoiaaG12
namespace Go.Proofs.Ytlaladhnidcoiaa
open Go.RowKit
set_option linter.unusedVariables false
set_option linter.unusedSimpArgs false

theorem flat_set_perm {qs : List (List Nat)} {k : Nat} (hk : k < qs.length) (t : List Nat) : (qs.set k (nq qs k ++ t)).flatten.Perm (qs.flatten ++ t) := by
  rw [flat_set qs k _ hk, flat_split qs k hk]
  rw [List.append_assoc, List.append_assoc, List.append_assoc, List.append_assoc]
  refine List.Perm.append_left _ ?_
  refine List.Perm.append_left _ ?_
  exact List.perm_append_comm
theorem nq_set_self {qs : List (List Nat)} {k : Nat} (hk : k < qs.length) (q : List Nat) : nq (qs.set k q) k = q := by rw [nq_set _ _ _ _ hk, if_pos rfl]
theorem set_same {qs : List (List Nat)} {k : Nat} (hk : k < qs.length) : qs.set k (nq qs k) = qs := by
  rw [nq_get _ _ hk]
  exact List.set_getElem_self hk
section
variable {w : World} {A U : Option Addr} {qs : List (List Nat)} {us : List Nat} (cap cu : Nat)
set_option maxHeartbeats 8000000 in
theorem xgpush_any (hr : GRow w A qs) (x : Int) (hx : -9223372036854775808 ≤ x ∧ x ≤ 9223372036854775807) (hu : Row w w.heap.size U us) (hul : us.length ≤ 17592186044416) (r : List (List Nat)) (y : Int) (hE : PushE qs x us r y) :
    Calls Try.prog 11 #[gv A qs.length cap, .int .i64 x, .slice U us.length cu] w fun e w' => PushG w r y e w' := by
  unfold PushG
  have hlim := hr.lim
  by_cases hok : OkG qs
  rotate_left
  · have HV := Lib.hid fun (w : World) hr => xgcheck_any (w := w) (A := A) (qs := qs) cap hr 2 (.inr ⟨hok, rfl⟩)
    have e1 : r = [] ∧ y = 2 := by
      rcases hE with ⟨_, h⟩ | ⟨h, _⟩ | ⟨h, _⟩ | ⟨h, _⟩
      · exact h
      all_goals exact absurd h hok
    obtain ⟨rfl, rfl⟩ := e1
    clear hE hok
    unfold gv at *
    go_enter Try.func11, Try.ntmps11
    go_wp2_with fail
    go_at_call 21
    refine (HV.out _ (hr.later (by repeat (first | exact Below.refl _ _ | assumption | (refine below_drewN ?_ _) | (refine Below.drew ?_) | (refine Below.alloc ?_ (by first | omega | (simp; omega) | simp) _) | (refine Below.setCell ?_ (by first | omega | (simp; omega) | simp) _) | (refine below_trans ?_ (by assumption) (by first | omega | (simp; omega) | simp)))))).mono ?_
    rintro e w1 ⟨rfl, hb_w1⟩
    obtain ⟨hc_w1, hf_w1⟩ := bcell hb_w1; have hz_w1_w_0 : w.heap.size < w1.heap.size := (by have hzz := hb_w1.size; (try simp only [World.size_alloc, World.size_setCell, World.size_drew, World.heap_drewN] at hzz); omega); have hz_w1_w_1 : w.heap.size + 1 < w1.heap.size := (by have hzz := hb_w1.size; (try simp only [World.size_alloc, World.size_setCell, World.size_drew, World.heap_drewN] at hzz); omega); have hs_w1 := hb_w1.size; (try simp only [World.size_alloc, World.size_setCell, World.size_drew, World.heap_drewN] at hs_w1)
    obtain ⟨q0, q1⟩ := ((Bx.new (w.alloc _) _ _).later hb_w1 : Bx w1 _ _)
    simp only [World.size_alloc] at q0 q1
    clear hc_w1 hf_w1
    go_wp2
    exact bodyPost_ret (res_g2 rfl rfl (g := w.heap.size + 1) (v0 := .slice none 0 0) (by first | exact World.cell?_setCell_same _ _ _ q0 | exact World.cell?_setCell_same _ _ _ (by first | exact q0 | (exact (World.cell?_alloc_lt _ _ ⟨_, _, _⟩ (by first | omega | (simp; omega) | simp)).trans q0) | (exact (World.cell?_alloc_lt _ _ ⟨_, _, _⟩ (by first | omega | (simp; omega) | simp)).trans ((World.cell?_alloc_lt _ _ ⟨_, _, _⟩ (by first | omega | (simp; omega) | simp)).trans q0)) | (simp [go_sem, q0]; done)) | exact (World.cell?_alloc_lt _ _ ⟨_, _, _⟩ (by first | omega | (simp; omega) | simp)).trans (World.cell?_setCell_same _ _ _ q0) | (simp [go_sem, q0]; done))) rfl ⟨none, 0, rfl, GOwn.nil _ _ _, (by repeat (first | exact Below.refl _ _ | assumption | (refine below_drewN ?_ _) | (refine Below.drew ?_) | (refine Below.alloc ?_ (by first | omega | (simp; omega) | simp) _) | (refine Below.setCell ?_ (by first | omega | (simp; omega) | simp) _) | (refine below_trans ?_ (by assumption) (by first | omega | (simp; omega) | simp))))⟩
  have HV := Lib.hid fun (w : World) hr => xgcheck_any (w := w) (A := A) (qs := qs) cap hr 0 (.inl ⟨hok, rfl⟩)
  have HT := Lib.hid fun (w : World) hr => xgcopy_any (w := w) (A := A) (qs := qs) cap hr
  unfold TwinG at HT
  have hlo := hok.lo
  have hhi := hok.hi
  by_cases hh : hasG qs x
  rotate_left
  · have e1 : r = qs ∧ y = 11 := by
      rcases hE with ⟨h, _⟩ | ⟨_, _, h⟩ | ⟨_, h, _⟩ | ⟨_, h, _⟩
      · exact absurd hok h
      · exact h
      all_goals exact absurd h hh
    obtain ⟨rfl, rfl⟩ := e1
    have hor : x < 0 ∨ (0 ≤ x ∧ (r.length : Int) ≤ x) := by
      unfold hasG at hh
      omega
    clear hE hok hh
    unfold gv at *
    have key : ∀ (d1 : decide (x < 0) = true ∨ (decide (x < 0) = false ∧ decide ((r.length : Int) ≤ x) = true)), Calls Try.prog 11 #[.agg #[.slice A r.length cap], .int .i64 x, .slice U us.length cu] w fun e w' => ∃ (B : Option Addr) (cb : Nat), e = .returned (.tuple #[.agg #[.slice B r.length cb], .int .i64 11]) ∧ GOwn w' w.heap.size B r ∧ Below w.heap.size w w' := by
      clear hor
      rintro (d1 | ⟨d1, d2⟩)
      all_goals
        go_enter Try.func11, Try.ntmps11
        go_wp2_with fail
        go_at_call 21
        refine (HV.out _ (hr.later (by repeat (first | exact Below.refl _ _ | assumption | (refine below_drewN ?_ _) | (refine Below.drew ?_) | (refine Below.alloc ?_ (by first | omega | (simp; omega) | simp) _) | (refine Below.setCell ?_ (by first | omega | (simp; omega) | simp) _) | (refine below_trans ?_ (by assumption) (by first | omega | (simp; omega) | simp)))))).mono ?_
        rintro e w1 ⟨rfl, hb_w1⟩
        obtain ⟨hc_w1, hf_w1⟩ := bcell hb_w1; have hz_w1_w_0 : w.heap.size < w1.heap.size := (by have hzz := hb_w1.size; (try simp only [World.size_alloc, World.size_setCell, World.size_drew, World.heap_drewN] at hzz); omega); have hz_w1_w_1 : w.heap.size + 1 < w1.heap.size := (by have hzz := hb_w1.size; (try simp only [World.size_alloc, World.size_setCell, World.size_drew, World.heap_drewN] at hzz); omega); have hs_w1 := hb_w1.size; (try simp only [World.size_alloc, World.size_setCell, World.size_drew, World.heap_drewN] at hs_w1)
        have b1 : Below w.heap.size w w1 := (by repeat (first | exact Below.refl _ _ | assumption | (refine below_drewN ?_ _) | (refine Below.drew ?_) | (refine Below.alloc ?_ (by first | omega | (simp; omega) | simp) _) | (refine Below.setCell ?_ (by first | omega | (simp; omega) | simp) _) | (refine below_trans ?_ (by assumption) (by first | omega | (simp; omega) | simp))))
        have Q := ((Bx.new (w.alloc _) _ _).later hb_w1 : Bx w1 _ _)
        have P := ((Bx.new w _ _).alloc _ |>.later hb_w1 : Bx w1 _ _)
        simp only [World.size_alloc] at Q
        obtain ⟨p0, p1⟩ := id P
        clear hc_w1 hf_w1
        go_wp2_with fail
        go_at_call 9
        refine (HT.out _ ((hr.later b1).later (by repeat (first | exact Below.refl _ _ | assumption | (refine below_drewN ?_ _) | (refine Below.drew ?_) | (refine Below.alloc ?_ (by first | omega | (simp; omega) | simp) _) | (refine Below.setCell ?_ (by first | omega | (simp; omega) | simp) _) | (refine below_trans ?_ (by assumption) (by first | omega | (simp; omega) | simp)))))).mono ?_
        rintro e w2 ⟨B2, c2, vs, rfl, hvs, o2, hb_w2⟩
        obtain ⟨hc_w2, hf_w2⟩ := bcell hb_w2; have hs_w2 := hb_w2.size; (try simp only [World.size_alloc, World.size_setCell, World.size_drew, World.heap_drewN] at hs_w2)
        have b2 : Below w.heap.size w w2 := (by repeat (first | exact Below.refl _ _ | assumption | (refine below_drewN ?_ _) | (refine Below.drew ?_) | (refine Below.alloc ?_ (by first | omega | (simp; omega) | simp) _) | (refine Below.setCell ?_ (by first | omega | (simp; omega) | simp) _) | (refine below_trans ?_ (by assumption) (by first | omega | (simp; omega) | simp))))
        have Q := (Q.later hb_w2 : Bx w2 _ _)
        have P := (P.later hb_w2 : Bx w2 _ _)
        obtain ⟨q0, q1⟩ := id Q
        obtain ⟨p0, p1⟩ := id P
        have zq := Q.lt
        have zp := P.lt
        have hs21 : w1.heap.size ≤ w2.heap.size := hb_w2.size
        have n1 : ¬ (w2.heap.size = w.heap.size + 1) := by omega
        have n2 : ¬ (w.heap.size + 1 = w2.heap.size) := by omega
        have n3 : ¬ (w2.heap.size = w.heap.size) := by omega
        have HVS := Lib.hid hvs
        have o3 := Lib.hid o2
        clear hc_w2 hf_w2 o2 hvs
        go_wp2
        refine bodyPost_ret (res_g2 rfl rfl (g := w.heap.size + 1) (v0 := .slice B2 r.length c2) ((World.cell?_alloc_lt _ _ ⟨_, _, _⟩ (by rw [World.size_setCell]; exact zq)).trans (World.cell?_setCell_same _ _ _ q0))) rfl ⟨B2, c2, rfl, ?_, (by repeat (first | exact Below.refl _ _ | assumption | (refine below_drewN ?_ _) | (refine Below.drew ?_) | (refine Below.alloc ?_ (by first | omega | (simp; omega) | simp) _) | (refine Below.setCell ?_ (by first | omega | (simp; omega) | simp) _) | (refine below_trans ?_ (by assumption) (by first | omega | (simp; omega) | simp))))⟩
        have o4 := ((o3.out.far (p := ⟨w.heap.size + 1, 0, none⟩) (by show w.heap.size + 1 < w1.heap.size; omega) (.slice B2 r.length c2)).own (by rw [HVS.out]; exact hlim)).later ((Below.refl _ _).alloc (Nat.le_refl _) (.cells #[.slice B2 r.length c2] 24))
        rw [HVS.out] at o4
        exact o4.mono (by omega)
    exact key (by
      rcases hor with h | ⟨h1, h2⟩
      · exact .inl (by simpa using h)
      · exact .inr ⟨by simp; omega, by simpa using h2⟩)
  obtain ⟨k, rfl⟩ := Int.eq_ofNat_of_zero_le hh.1
  have hkn : k < qs.length := by have := hh.2; omega
  have HKQ := Lib.hid hkn
  have hk2 : (k : Int).toNat = k := Int.toNat_natCast k
  unfold PushE at hE
  simp only [hk2] at hE
  clear hk2
  have HY : Hid (addsErr qs.flatten us = y ∧ (y ≠ 0 → r = qs) ∧ (y = 0 → r = qs.set k (nq qs k ++ us))) := Lib.hid (by
    rcases hE with ⟨h, _⟩ | ⟨_, h, _⟩ | ⟨_, _, h1, h2, h3⟩ | ⟨_, _, h1, h2, h3⟩
    · exact absurd hok h
    · exact absurd hh h
    · exact ⟨h1, fun _ => h3, fun h => absurd h h2⟩
    · exact ⟨h1.trans h2.symm, fun h => absurd h2 h, fun _ => h3⟩)
  have hgood : GoodP qs.flatten := ⟨hok.nz, hok.nd, hok.len⟩
  have HGD := Lib.hid hgood
  obtain ⟨n, hn⟩ : ∃ n, Hid (qs.length = n) := ⟨_, rfl⟩
  rw [hn.out] at hlo hhi hkn
  rw [hn.out] at HV HT ⊢
  clear hE hok hh hgood
  unfold gv at *
  have i1 : (k : Int) < (n : Int) := by omega
  have i2 : (0 : Int) ≤ (k : Int) := by omega
  have f1 : decide ((k : Int) < 0) = false := by simp
  have f2 : decide ((n : Int) ≤ (k : Int)) = false := by simp; omega
  have f3 : decide (n ≤ k) = false := by simp; omega
  have f4 : ¬ n ≤ k := by omega
  go_enter Try.func11, Try.ntmps11
  go_wp2_with fail
  go_at_call 21
  refine (HV.out _ (hr.later (by repeat (first | exact Below.refl _ _ | assumption | (refine below_drewN ?_ _) | (refine Below.drew ?_) | (refine Below.alloc ?_ (by first | omega | (simp; omega) | simp) _) | (refine Below.setCell ?_ (by first | omega | (simp; omega) | simp) _) | (refine below_trans ?_ (by assumption) (by first | omega | (simp; omega) | simp)))))).mono ?_
  rintro e w1 ⟨rfl, hb_w1⟩
  obtain ⟨hc_w1, hf_w1⟩ := bcell hb_w1; have hz_w1_w_0 : w.heap.size < w1.heap.size := (by have hzz := hb_w1.size; (try simp only [World.size_alloc, World.size_setCell, World.size_drew, World.heap_drewN] at hzz); omega); have hz_w1_w_1 : w.heap.size + 1 < w1.heap.size := (by have hzz := hb_w1.size; (try simp only [World.size_alloc, World.size_setCell, World.size_drew, World.heap_drewN] at hzz); omega); have hs_w1 := hb_w1.size; (try simp only [World.size_alloc, World.size_setCell, World.size_drew, World.heap_drewN] at hs_w1)
  have b1 : Below w.heap.size w w1 := (by repeat (first | exact Below.refl _ _ | assumption | (refine below_drewN ?_ _) | (refine Below.drew ?_) | (refine Below.alloc ?_ (by first | omega | (simp; omega) | simp) _) | (refine Below.setCell ?_ (by first | omega | (simp; omega) | simp) _) | (refine below_trans ?_ (by assumption) (by first | omega | (simp; omega) | simp))))
  have Q := ((Bx.new (w.alloc _) _ _).later hb_w1 : Bx w1 _ _)
  have P := ((Bx.new w _ _).alloc _ |>.later hb_w1 : Bx w1 _ _)
  simp only [World.size_alloc] at Q
  obtain ⟨p0, p1⟩ := id P
  clear hc_w1 hf_w1
  go_wp2_with fail
  go_at_call 9
  refine (HT.out _ ((hr.later b1).later (by repeat (first | exact Below.refl _ _ | assumption | (refine below_drewN ?_ _) | (refine Below.drew ?_) | (refine Below.alloc ?_ (by first | omega | (simp; omega) | simp) _) | (refine Below.setCell ?_ (by first | omega | (simp; omega) | simp) _) | (refine below_trans ?_ (by assumption) (by first | omega | (simp; omega) | simp)))))).mono ?_
  rintro e w2 ⟨B2, c2, vs, rfl, hvs, o2, hb_w2⟩
  obtain ⟨hc_w2, hf_w2⟩ := bcell hb_w2; have hs_w2 := hb_w2.size; (try simp only [World.size_alloc, World.size_setCell, World.size_drew, World.heap_drewN] at hs_w2)
  have b2 : Below w.heap.size w w2 := (by repeat (first | exact Below.refl _ _ | assumption | (refine below_drewN ?_ _) | (refine Below.drew ?_) | (refine Below.alloc ?_ (by first | omega | (simp; omega) | simp) _) | (refine Below.setCell ?_ (by first | omega | (simp; omega) | simp) _) | (refine below_trans ?_ (by assumption) (by first | omega | (simp; omega) | simp))))
  have Q := (Q.later hb_w2 : Bx w2 _ _)
  have P := (P.later hb_w2 : Bx w2 _ _)
  obtain ⟨q0, q1⟩ := id Q
  obtain ⟨p0, p1⟩ := id P
  have zq := Q.lt
  have zp := P.lt
  have hs21 : w1.heap.size ≤ w2.heap.size := hb_w2.size
  have hvl : vs.length = n := by rw [← qsOf_len, hvs]; exact hn.out
  obtain ⟨g, rfl, hg1, hg2⟩ := o2.adr (by omega)
  have HRB0 : Hid (∀ i (hi : i < vs.length) b, (vs[i].A.map fun a => a.block) = some b → b ≠ w2.heap.size) := Lib.hid (fun i hi b e => by have := (o2.rowAt i hi b e).2.1; omega)
  have T3 := Bx.new w2 (.slice (some ⟨g, 0, none⟩) n c2) 24
  have P3 := P.alloc (.cells #[.slice (some ⟨g, 0, none⟩) n c2] 24)
  have Q3 := Q.alloc (.cells #[.slice (some ⟨g, 0, none⟩) n c2] 24)
  have o3 := o2.later ((Below.refl _ _).alloc (Nat.le_refl _) (.cells #[.slice (some ⟨g, 0, none⟩) n c2] 24))
  have b3 : Below w.heap.size w (w2.alloc (.cells #[.slice (some ⟨g, 0, none⟩) n c2] 24)) := (by repeat (first | exact Below.refl _ _ | assumption | (refine below_drewN ?_ _) | (refine Below.drew ?_) | (refine Below.alloc ?_ (by first | omega | (simp; omega) | simp) _) | (refine Below.setCell ?_ (by first | omega | (simp; omega) | simp) _) | (refine below_trans ?_ (by assumption) (by first | omega | (simp; omega) | simp))))
  have HQS0 : Hid (qsOf vs = qs.set k (nq qs k ++ us.take 0)) := Lib.hid (by rw [List.take_zero, List.append_nil, set_same HKQ.out]; exact hvs)
  have HVL0 := Lib.hid hvl
  have z3 : (w2.alloc (.cells #[.slice (some ⟨g, 0, none⟩) n c2] 24)).heap.size = w2.heap.size + 1 := by simp
  clear hc_w2 hf_w2 o2 hvs
  go_wp2_with fail
  generalize (w2.alloc (.cells #[.slice (some ⟨g, 0, none⟩) n c2] 24)) = w3 at *
  clear q0 q1 p0 p1 P Q
  go_loopw [30] (fun jj wr => ∃ j : Nat, jj = .int .i64 (j : Nat) ∧ j ≤ us.length ∧ Hid (OkTo qs.flatten us j) ∧ ∃ vs : List Qv, Hid (qsOf vs = qs.set k (nq qs k ++ us.take j)) ∧ Hid (vs.length = n) ∧ Hid (∀ i (hi : i < vs.length) b, (vs[i].A.map fun a => a.block) = some b → b ≠ w2.heap.size) ∧ GTwin wr w1.heap.size (some ⟨g, 0, none⟩) c2 vs ∧ Bx wr w.heap.size (.slice A n cap) ∧ Bx wr (w.heap.size + 1) (.slice none 0 0) ∧ Bx wr w2.heap.size (.slice (some ⟨g, 0, none⟩) n c2) ∧ w3.heap.size ≤ wr.heap.size ∧ Below w.heap.size w wr) (fun jj _ => us.length - (intOf jj).toNat)
  case atStart => exact ⟨0, rfl, Nat.zero_le _, Lib.hid (okTo_zero _ _), vs, HQS0, HVL0, HRB0, o3, P3, Q3, T3, Nat.le_refl _, b3⟩
  case round =>
    clear o3 P3 Q3 T3 b3 b1 b2 HQS0 HVL0 HRB0 hvl
    obtain ⟨j, rfl, hj, HO, vs, HQS, HVL, HRB, o4, P, Q, T, hsz, hb_wr⟩ := hrel
    obtain ⟨p0, p1⟩ := id P
    obtain ⟨q0, q1⟩ := id Q
    obtain ⟨t0, t1⟩ := id T
    have hsr : w.heap.size ≤ wr.heap.size := hb_wr.size
    have hvl := HVL.out
    obtain ⟨g1, g2, g3⟩ := okTo_good HGD.out.nz HGD.out.nd HGD.out.len j HO.out hj
    have hperm := flat_set_perm HKQ.out (us.take j)
    have hpl := hperm.length_eq
    have hrow : GRow wr (some ⟨g, 0, none⟩) (qsOf vs) := (o4.own (by rw [HQS.out]; exact qlim_set hlim _ _ (by have := nq_len_le qs k; rw [List.length_append] at g3 ⊢; have := HGD.out.len; rw [List.length_take] at *; omega))).row
    have n1 : ¬ (w2.heap.size = w.heap.size + 1) := by omega
    have n2 : ¬ (w.heap.size + 1 = w2.heap.size) := by omega
    have n3 : ¬ (w2.heap.size = w.heap.size) := by omega
    have n4 : ¬ (w.heap.size = w2.heap.size) := by omega
    have hgw : g < wr.heap.size := by omega
    by_cases hlt : j < us.length
    · have hxw := hu.words.at_ j
      obtain ⟨b, off, rfl, hbb, c1⟩ := (hu.later hb_wr).cellAt (k := j) hlt
      have HTN := Lib.hid (take_next us j hlt)
      have j1 : (j : Int) < (us.length : Int) := by omega
      have j2 : (0 : Int) ≤ (j : Int) := by omega
      obtain ⟨a, ha⟩ : ∃ a, Hid (us.getD j 0 = a) := ⟨_, rfl⟩
      rw [ha.out] at c1 hxw
      obtain ⟨c, hcc⟩ : ∃ c, Hid ((qsOf vs).flatten.count a = c) := ⟨_, rfl⟩
      have hcm : 0 < c ↔ a ∈ qs.flatten ++ us.take j := by rw [← hcc.out, HQS.out, hperm.count_eq, List.count_pos_iff]
      obtain ⟨m, hmm⟩ : ∃ m, Hid ((qsOf vs).flatten.length = m) := ⟨_, rfl⟩
      have hml : m = (qs.flatten ++ us.take j).length := by rw [← hmm.out, HQS.out, hpl]
      have hql : (qsOf vs).length = n := by rw [qsOf_len]; exact hvl
      have HHAS := Lib.hid fun (w : World) hr => xghas_any (w := w) (A := some ⟨g, 0, none⟩) (qs := qsOf vs) c2 hr (by omega) (by rw [hmm.out]; omega) a c hcc.out
      have HMAN := Lib.hid fun (w : World) hr => xgmany_any (w := w) (A := some ⟨g, 0, none⟩) (qs := qsOf vs) c2 hr (by omega) (by rw [hmm.out]; omega) m hmm.out
      rw [hql] at HHAS HMAN
      unfold gv at HHAS HMAN
      have HERR : Hid (addErr (qs.flatten ++ us.take j) a = if a = 0 then 7 else if 0 < c then 4 else if m = 16384 then 6 else 0) := Lib.hid (by
        unfold addErr
        by_cases h1 : a = 0
        · rw [if_pos h1, if_pos h1]
        · rw [if_neg h1, if_neg h1]
          by_cases h2 : 0 < c
          · rw [if_pos h2, if_pos (hcm.1 h2)]
          · rw [if_neg h2, if_neg (fun h => h2 (hcm.2 h)), hml])
      have HEY : Hid (addErr (qs.flatten ++ us.take j) a ≠ 0 → y = addErr (qs.flatten ++ us.take j) a ∧ r = qs) := Lib.hid (fun he => by
        have e := adds_hit HO.out hlt (e := addErr (qs.flatten ++ us.take j) a) (by rw [ha.out]) he
        have e2 : y = addErr (qs.flatten ++ us.take j) a := by rw [← e]; exact HY.out.1.symm
        exact ⟨e2, HY.out.2.1 (by rw [e2]; exact he)⟩)
      have HG := Lib.hid hrow
      clear hperm hpl hrow hcm hml
      by_cases ha0 : a = 0
      · have e7 : y = 7 ∧ r = qs := by
          have := HERR.out
          rw [if_pos ha0] at this
          have h := HEY.out (by rw [this]; decide)
          rw [this] at h
          exact h
        obtain ⟨rfl, rfl⟩ := e7
        have d0 : ((a : Int) == 0) = true := by simp [ha0]
        clear ha0 g1 g2 g3
        go_wp2_with fail
        go_at_call 9
        refine (HT.out _ (hr.later hb_wr)).mono ?_
        rintro e w5 ⟨B5, c5, vs5, rfl, hvs5, o5, hb_w5⟩
        obtain ⟨hc_w5, hf_w5⟩ := bcell hb_w5; have hs_w5 := hb_w5.size; (try simp only [World.size_alloc, World.size_setCell, World.size_drew, World.heap_drewN] at hs_w5)
        have Q := Q.later hb_w5
        obtain ⟨q0, q1⟩ := id Q
        have b5 : Below w.heap.size w w5 := (by repeat (first | exact Below.refl _ _ | assumption | (refine below_drewN ?_ _) | (refine Below.drew ?_) | (refine Below.alloc ?_ (by first | omega | (simp; omega) | simp) _) | (refine Below.setCell ?_ (by first | omega | (simp; omega) | simp) _) | (refine below_trans ?_ (by assumption) (by first | omega | (simp; omega) | simp))))
        have HO5 := Lib.hid ((o5.far (p := ⟨w.heap.size + 1, 0, none⟩) (by show w.heap.size + 1 < wr.heap.size; omega) (.slice B5 n c5)).own (by rw [hvs5]; exact hlim))
        rw [hvs5] at HO5
        clear o5 hc_w5 hf_w5
        go_wp2
        exact bodyPost_ret (res_g2 rfl rfl (g := w.heap.size + 1) (v0 := .slice B5 n c5) (by first | exact World.cell?_setCell_same _ _ _ q0 | exact World.cell?_setCell_same _ _ _ (by first | exact q0 | (exact (World.cell?_alloc_lt _ _ ⟨_, _, _⟩ (by first | omega | (simp; omega) | simp)).trans q0) | (exact (World.cell?_alloc_lt _ _ ⟨_, _, _⟩ (by first | omega | (simp; omega) | simp)).trans ((World.cell?_alloc_lt _ _ ⟨_, _, _⟩ (by first | omega | (simp; omega) | simp)).trans q0)) | (simp [go_sem, q0]; done)) | exact (World.cell?_alloc_lt _ _ ⟨_, _, _⟩ (by first | omega | (simp; omega) | simp)).trans (World.cell?_setCell_same _ _ _ q0) | (simp [go_sem, q0]; done))) rfl ⟨B5, c5, by rw [hn.out]; rfl, HO5.out.mono (by omega), (by repeat (first | exact Below.refl _ _ | assumption | (refine below_drewN ?_ _) | (refine Below.drew ?_) | (refine Below.alloc ?_ (by first | omega | (simp; omega) | simp) _) | (refine Below.setCell ?_ (by first | omega | (simp; omega) | simp) _) | (refine below_trans ?_ (by assumption) (by first | omega | (simp; omega) | simp))))⟩
      · have d0 : ((a : Int) == 0) = false := beq_eq_false_iff_ne.2 (by omega)
        by_cases hc0 : 0 < c
        · have e7 : y = 4 ∧ r = qs := by
            have := HERR.out
            rw [if_neg ha0, if_pos hc0] at this
            have h := HEY.out (by rw [this]; decide)
            rw [this] at h
            exact h
          obtain ⟨rfl, rfl⟩ := e7
          have d1 : decide ((0 : Int) < (c : Int)) = true := by simp; omega
          clear ha0 g1 g2 g3
          go_wp2_with fail
          go_at_call 22
          refine (HHAS.out _ HG.out).mono ?_
          rintro e wh ⟨rfl, hb_wh⟩
          have hsh := hb_wh.size
          have P := P.later hb_wh
          have Q := Q.later hb_wh
          obtain ⟨p0, p1⟩ := id P
          obtain ⟨q0, q1⟩ := id Q
          have hb_wr : Below w.heap.size w wh := (by repeat (first | exact Below.refl _ _ | assumption | (refine below_drewN ?_ _) | (refine Below.drew ?_) | (refine Below.alloc ?_ (by first | omega | (simp; omega) | simp) _) | (refine Below.setCell ?_ (by first | omega | (simp; omega) | simp) _) | (refine below_trans ?_ (by assumption) (by first | omega | (simp; omega) | simp))))
          have hsr : w.heap.size ≤ wh.heap.size := by omega
          go_wp2_with fail
          go_at_call 9
          refine (HT.out _ (hr.later hb_wr)).mono ?_
          rintro e w5 ⟨B5, c5, vs5, rfl, hvs5, o5, hb_w5⟩
          obtain ⟨hc_w5, hf_w5⟩ := bcell hb_w5; have hs_w5 := hb_w5.size; (try simp only [World.size_alloc, World.size_setCell, World.size_drew, World.heap_drewN] at hs_w5)
          have Q := Q.later hb_w5
          obtain ⟨q0, q1⟩ := id Q
          have b5 : Below w.heap.size w w5 := (by repeat (first | exact Below.refl _ _ | assumption | (refine below_drewN ?_ _) | (refine Below.drew ?_) | (refine Below.alloc ?_ (by first | omega | (simp; omega) | simp) _) | (refine Below.setCell ?_ (by first | omega | (simp; omega) | simp) _) | (refine below_trans ?_ (by assumption) (by first | omega | (simp; omega) | simp))))
          have HO5 := Lib.hid ((o5.far (p := ⟨w.heap.size + 1, 0, none⟩) (by show w.heap.size + 1 < wh.heap.size; omega) (.slice B5 n c5)).own (by rw [hvs5]; exact hlim))
          rw [hvs5] at HO5
          clear o5 hc_w5 hf_w5
          go_wp2
          exact bodyPost_ret (res_g2 rfl rfl (g := w.heap.size + 1) (v0 := .slice B5 n c5) (by first | exact World.cell?_setCell_same _ _ _ q0 | exact World.cell?_setCell_same _ _ _ (by first | exact q0 | (exact (World.cell?_alloc_lt _ _ ⟨_, _, _⟩ (by first | omega | (simp; omega) | simp)).trans q0) | (exact (World.cell?_alloc_lt _ _ ⟨_, _, _⟩ (by first | omega | (simp; omega) | simp)).trans ((World.cell?_alloc_lt _ _ ⟨_, _, _⟩ (by first | omega | (simp; omega) | simp)).trans q0)) | (simp [go_sem, q0]; done)) | exact (World.cell?_alloc_lt _ _ ⟨_, _, _⟩ (by first | omega | (simp; omega) | simp)).trans (World.cell?_setCell_same _ _ _ q0) | (simp [go_sem, q0]; done))) rfl ⟨B5, c5, by rw [hn.out]; rfl, HO5.out.mono (by omega), (by repeat (first | exact Below.refl _ _ | assumption | (refine below_drewN ?_ _) | (refine Below.drew ?_) | (refine Below.alloc ?_ (by first | omega | (simp; omega) | simp) _) | (refine Below.setCell ?_ (by first | omega | (simp; omega) | simp) _) | (refine below_trans ?_ (by assumption) (by first | omega | (simp; omega) | simp))))⟩
        · have d1 : decide ((0 : Int) < (c : Int)) = false := by simp; omega
          have d1n : c = 0 := by omega
          by_cases hm0 : m = 16384
          · have e7 : y = 6 ∧ r = qs := by
              have := HERR.out
              rw [if_neg ha0, if_neg hc0, if_pos hm0] at this
              have h := HEY.out (by rw [this]; decide)
              rw [this] at h
              exact h
            obtain ⟨rfl, rfl⟩ := e7
            have d2 : ((m : Int) == 16384) = true := by simp [hm0]; 
            subst d1n
            clear ha0 g1 g2 g3 hm0
            go_wp2_with fail
            go_at_call 22
            refine (HHAS.out _ HG.out).mono ?_
            rintro e wh ⟨rfl, hb_wh⟩
            have hsh := hb_wh.size
            have P := P.later hb_wh
            have Q := Q.later hb_wh
            have T := T.later hb_wh
            have HG2 := Lib.hid (HG.out.later hb_wh)
            obtain ⟨p0, p1⟩ := id P
            obtain ⟨q0, q1⟩ := id Q
            obtain ⟨t0, t1⟩ := id T
            have bh : Below w.heap.size w wh := (by repeat (first | exact Below.refl _ _ | assumption | (refine below_drewN ?_ _) | (refine Below.drew ?_) | (refine Below.alloc ?_ (by first | omega | (simp; omega) | simp) _) | (refine Below.setCell ?_ (by first | omega | (simp; omega) | simp) _) | (refine below_trans ?_ (by assumption) (by first | omega | (simp; omega) | simp))))
            go_wp2_with fail
            go_at_call 27
            refine (HMAN.out _ HG2.out).mono ?_
            rintro e wm ⟨rfl, hb_wm⟩
            have hsm := hb_wm.size
            have P := P.later hb_wm
            have Q := Q.later hb_wm
            obtain ⟨p0, p1⟩ := id P
            obtain ⟨q0, q1⟩ := id Q
            have hb_wr : Below w.heap.size w wm := (by repeat (first | exact Below.refl _ _ | assumption | (refine below_drewN ?_ _) | (refine Below.drew ?_) | (refine Below.alloc ?_ (by first | omega | (simp; omega) | simp) _) | (refine Below.setCell ?_ (by first | omega | (simp; omega) | simp) _) | (refine below_trans ?_ (by assumption) (by first | omega | (simp; omega) | simp))))
            have hsr : w.heap.size ≤ wm.heap.size := by omega
            go_wp2_with fail
            go_at_call 9
            refine (HT.out _ (hr.later hb_wr)).mono ?_
            rintro e w5 ⟨B5, c5, vs5, rfl, hvs5, o5, hb_w5⟩
            obtain ⟨hc_w5, hf_w5⟩ := bcell hb_w5; have hs_w5 := hb_w5.size; (try simp only [World.size_alloc, World.size_setCell, World.size_drew, World.heap_drewN] at hs_w5)
            have Q := Q.later hb_w5
            obtain ⟨q0, q1⟩ := id Q
            have b5 : Below w.heap.size w w5 := (by repeat (first | exact Below.refl _ _ | assumption | (refine below_drewN ?_ _) | (refine Below.drew ?_) | (refine Below.alloc ?_ (by first | omega | (simp; omega) | simp) _) | (refine Below.setCell ?_ (by first | omega | (simp; omega) | simp) _) | (refine below_trans ?_ (by assumption) (by first | omega | (simp; omega) | simp))))
            have HO5 := Lib.hid ((o5.far (p := ⟨w.heap.size + 1, 0, none⟩) (by show w.heap.size + 1 < wm.heap.size; omega) (.slice B5 n c5)).own (by rw [hvs5]; exact hlim))
            rw [hvs5] at HO5
            clear o5 hc_w5 hf_w5
            go_wp2
            exact bodyPost_ret (res_g2 rfl rfl (g := w.heap.size + 1) (v0 := .slice B5 n c5) (by first | exact World.cell?_setCell_same _ _ _ q0 | exact World.cell?_setCell_same _ _ _ (by first | exact q0 | (exact (World.cell?_alloc_lt _ _ ⟨_, _, _⟩ (by first | omega | (simp; omega) | simp)).trans q0) | (exact (World.cell?_alloc_lt _ _ ⟨_, _, _⟩ (by first | omega | (simp; omega) | simp)).trans ((World.cell?_alloc_lt _ _ ⟨_, _, _⟩ (by first | omega | (simp; omega) | simp)).trans q0)) | (simp [go_sem, q0]; done)) | exact (World.cell?_alloc_lt _ _ ⟨_, _, _⟩ (by first | omega | (simp; omega) | simp)).trans (World.cell?_setCell_same _ _ _ q0) | (simp [go_sem, q0]; done))) rfl ⟨B5, c5, by rw [hn.out]; rfl, HO5.out.mono (by omega), (by repeat (first | exact Below.refl _ _ | assumption | (refine below_drewN ?_ _) | (refine Below.drew ?_) | (refine Below.alloc ?_ (by first | omega | (simp; omega) | simp) _) | (refine Below.setCell ?_ (by first | omega | (simp; omega) | simp) _) | (refine below_trans ?_ (by assumption) (by first | omega | (simp; omega) | simp))))⟩
          · have d2 : ((m : Int) == 16384) = false := beq_eq_false_iff_ne.2 (by omega)
            have e0 : addErr (qs.flatten ++ us.take j) a = 0 := by
              have := HERR.out
              rwa [if_neg ha0, if_neg hc0, if_neg hm0] at this
            have HO2 : Hid (OkTo qs.flatten us (j + 1)) := Lib.hid (okTo_next HO.out (by rw [ha.out]; exact e0))
            subst d1n
            have hkl : k < vs.length := by omega
            have hqe : vs[k].q = nq qs k ++ us.take j := by
              rw [← qsOf_at _ _ hkl, HQS.out, nq_set_self HKQ.out]
            have hqlen : vs[k].q.length ≤ 16384 := by
              rw [hqe]
              have := nq_len_le qs k
              rw [List.length_append] at g3 ⊢
              omega
            have HQS2 : Hid (∀ A5 c5, Hid (qsOf (vs.set k ⟨A5, c5, vs[k].q ++ [a]⟩) = qs.set k (nq qs k ++ us.take (j + 1)))) := Lib.hid (fun A5 c5 => Lib.hid (by
              rw [qsOf_set, HQS.out, List.set_set, hqe, HTN.out, ha.out, List.append_assoc]))
            have HRB2 : Hid (∀ A5 c5, (∀ b, (A5.map fun a => a.block) = some b → b ≠ w2.heap.size) → Hid (∀ i (hi : i < (vs.set k ⟨A5, c5, vs[k].q ++ [a]⟩).length) b, ((vs.set k ⟨A5, c5, vs[k].q ++ [a]⟩)[i].A.map fun a => a.block) = some b → b ≠ w2.heap.size)) := Lib.hid (fun A5 c5 h => Lib.hid (fun i hi b e => by
              by_cases e1 : k = i
              · subst e1
                simp only [List.getElem_set_self] at e
                exact h b e
              · simp only [List.getElem_set_ne e1] at e
                exact HRB.out i (by simpa using hi) b e))
            have HW : Hid (Words (vs[k].q ++ [a])) := Lib.hid (fun z hz => by
              rcases List.mem_append.1 hz with hz | hz
              · exact (o4.rows k hkl).words z hz
              · rw [List.mem_singleton] at hz; subst hz; exact hxw)
            clear ha0 g1 g2 g3 hm0 e0 hqe hxw
            go_wp2_with fail
            go_at_call 22
            refine (HHAS.out _ HG.out).mono ?_
            rintro e wh ⟨rfl, hb_wh⟩
            have hsh := hb_wh.size
            have P := P.later hb_wh
            have Q := Q.later hb_wh
            have T := T.later hb_wh
            have HG2 := Lib.hid (HG.out.later hb_wh)
            obtain ⟨p0, p1⟩ := id P
            obtain ⟨q0, q1⟩ := id Q
            obtain ⟨t0, t1⟩ := id T
            have bh : Below w.heap.size w wh := (by repeat (first | exact Below.refl _ _ | assumption | (refine below_drewN ?_ _) | (refine Below.drew ?_) | (refine Below.alloc ?_ (by first | omega | (simp; omega) | simp) _) | (refine Below.setCell ?_ (by first | omega | (simp; omega) | simp) _) | (refine below_trans ?_ (by assumption) (by first | omega | (simp; omega) | simp))))
            go_wp2_with fail
            go_at_call 27
            refine (HMAN.out _ HG2.out).mono ?_
            rintro e wm ⟨rfl, hb_wm⟩
            have hsm := hb_wm.size
            have P := P.later hb_wm
            have Q := Q.later hb_wm
            have T := T.later hb_wm
            have o4 := (o4.later hb_wh).later hb_wm
            have hb_wx : Below w.heap.size w wm := (by repeat (first | exact Below.refl _ _ | assumption | (refine below_drewN ?_ _) | (refine Below.drew ?_) | (refine Below.alloc ?_ (by first | omega | (simp; omega) | simp) _) | (refine Below.setCell ?_ (by first | omega | (simp; omega) | simp) _) | (refine below_trans ?_ (by assumption) (by first | omega | (simp; omega) | simp))))
            clear HHAS HMAN HG HG2 bh hb_wh hb_wm hb_wr hsr
            have hgw : g < wm.heap.size := by omega
            have hsz : w3.heap.size ≤ wm.heap.size := by omega
            clear hsh hsm
            generalize wm = wM at *
            obtain ⟨p0, p1⟩ := id P
            obtain ⟨q0, q1⟩ := id Q
            obtain ⟨t0, t1⟩ := id T
            have hro := o4.rows k hkl
            have c0 := o4.cell k hkl
            have f0 := o4.hd.frozenAt k
            have hgB : w1.heap.size ≤ g := hg1
            have HPUT := Lib.hid fun (W w5 : World) (A' : Option Addr) (c' : Nat) (hW : Below wM.heap.size wM W) h5 ho hA => gtwin_put (w5 := w5) (L' := (vs[k]'hkl).q.length + 1) (c' := c') (q' := (vs[k]'hkl).q ++ [a]) (A' := A') (o4.later hW) (Nat.lt_of_lt_of_le hgw hW.size) hkl h5 ho hA
            have ng : g ≠ w2.heap.size := by omega
            have hkA : ∀ b, (vs[k].A.map fun a => a.block) = some b → b ≠ w2.heap.size ∧ (b ≠ w.heap.size ∧ b ≠ w.heap.size + 1) ∧ b ≠ g := fun b e => by
              obtain ⟨h1, h2, h3⟩ := o4.rowAt k hkl b e
              exact ⟨HRB.out k hkl b e, ⟨by omega, by omega⟩, fun e2 => o4.off k hkl g rfl (by rw [h3, e2])⟩
            clear o4
            generalize vs[k].A = vA at *
            generalize vs[k].c = vc at *
            generalize vs[k].q = q at *
            go_wp2_with fail
            refine wp_region_held_drew (S := (fun X : World => X.cell? ⟨w2.heap.size, 0, none⟩ = some (.slice (some ⟨g, 0, none⟩) n c2))) (by kernel_rfl) ?_ (fun hHeld => ?_)
            · (try dsimp only); (first | assumption | exact (T.alloc _).c | (simp [go_sem]; done) | exact (World.cell?_alloc_lt _ _ ⟨_, _, _⟩ (by first | assumption | omega)).trans (by assumption) | exact (World.cell?_setCell_other _ _ _ _ (by intro e; injection e with e1; exact ng e1.symm)).trans (by assumption) | exact (World.cell?_setCell_other _ _ _ _ (by intro e; injection e with e1; exact ng e1)).trans (by assumption))
            refine wpAnyH_take (i := 0) (v := ?_) rfl (by kernel_rfl) (by kernel_rfl) (by kernel_rfl) (fun _ _ _ h => h) (Or.inl ⟨by rfl, ?_⟩) (by assumption) ?_
            rotate_left
            · (intro w hSw; (try dsimp only at hSw); go_simp; first | done | with_reducible rfl)
            try simp only [Act.put, List.getElem_toArray, List.getElem_cons_zero, List.getElem_cons_succ, List.setIfInBounds_toArray, List.set_cons_zero, List.set_cons_succ]
            refine wpAnyH_take (i := 1) (v := ?_) rfl (by kernel_rfl) (by kernel_rfl) (by kernel_rfl) (fun _ _ _ h => h) (Or.inl ⟨by rfl, ?_⟩) (by assumption) ?_
            rotate_left
            · (intro w hSw; (try dsimp only at hSw); go_simp; first | done | with_reducible rfl)
            try simp only [Act.put, List.getElem_toArray, List.getElem_cons_zero, List.getElem_cons_succ, List.setIfInBounds_toArray, List.set_cons_zero, List.set_cons_succ]
            refine wpAnyH_take (i := 2) (v := ?_) rfl (by kernel_rfl) (by kernel_rfl) (by kernel_rfl) (fun _ _ _ h => h) (Or.inl ⟨by rfl, ?_⟩) (by assumption) ?_
            rotate_left
            · (intro w hSw; (try dsimp only at hSw); go_simp; first | done | with_reducible rfl)
            try simp only [Act.put, List.getElem_toArray, List.getElem_cons_zero, List.getElem_cons_succ, List.setIfInBounds_toArray, List.set_cons_zero, List.set_cons_succ]
            refine wpAnyH_take (i := 3) (v := ?_) rfl (by kernel_rfl) (by kernel_rfl) (by kernel_rfl) (fun _ _ _ h => h) (Or.inl ⟨by rfl, ?_⟩) (by assumption) ?_
            rotate_left
            · (intro w hSw; (try dsimp only at hSw); go_simp; first | done | with_reducible rfl)
            try simp only [Act.put, List.getElem_toArray, List.getElem_cons_zero, List.getElem_cons_succ, List.setIfInBounds_toArray, List.set_cons_zero, List.set_cons_succ]
            refine wpAnyH_take (i := 4) (v := ?_) rfl (by kernel_rfl) (by kernel_rfl) (by kernel_rfl) (fun _ _ _ h => h) (Or.inl ⟨by rfl, ?_⟩) (by assumption) ?_
            rotate_left
            · (intro w hSw; (try dsimp only at hSw); go_simp; first | done | with_reducible rfl)
            try simp only [Act.put, List.getElem_toArray, List.getElem_cons_zero, List.getElem_cons_succ, List.setIfInBounds_toArray, List.set_cons_zero, List.set_cons_succ]
            refine wpAnyH_take (i := 5) (v := ?_) rfl (by kernel_rfl) (by kernel_rfl) (by kernel_rfl) (fun _ _ _ h => h) (Or.inl ⟨by rfl, ?_⟩) (by assumption) ?_
            rotate_left
            · (intro w hSw; (try dsimp only at hSw); go_simp; first | done | with_reducible rfl)
            try simp only [Act.put, List.getElem_toArray, List.getElem_cons_zero, List.getElem_cons_succ, List.setIfInBounds_toArray, List.set_cons_zero, List.set_cons_succ]
            refine wpAnyH_take (i := 6) (v := ?_) rfl (by kernel_rfl) (by kernel_rfl) (by kernel_rfl) (fun _ _ _ h => h) (Or.inl ⟨by rfl, ?_⟩) (by assumption) ?_
            rotate_left
            · (intro w hSw; (try dsimp only at hSw); go_simp; first | done | with_reducible rfl)
            try simp only [Act.put, List.getElem_toArray, List.getElem_cons_zero, List.getElem_cons_succ, List.setIfInBounds_toArray, List.set_cons_zero, List.set_cons_succ]
            refine wpAnyH_take (i := 8) (v := ?_) rfl (by kernel_rfl) (by kernel_rfl) (by kernel_rfl) (fun _ _ _ h => h) (Or.inl ⟨by rfl, ?_⟩) (by assumption) ?_
            rotate_left
            · (intro w hSw; (try dsimp only at hSw); go_simp; first | done | with_reducible rfl)
            try simp only [Act.put, List.getElem_toArray, List.getElem_cons_zero, List.getElem_cons_succ, List.setIfInBounds_toArray, List.set_cons_zero, List.set_cons_succ]
            refine wpAnyH_ready (rs := [7, 9]) (by kernel_rfl) (by simp) ?_
            refine AllReadyH.cons rfl (fun K hK => ?_) (AllReadyH.cons rfl (fun K hK => ?_) AllReadyH.nil)
            · try simp only [List.getElem_toArray, List.getElem_cons_zero, List.getElem_cons_succ]
              go_simp
              refine hK.out _ _ ?_ (fun hHeld => ?_)
              · (try dsimp only); (first | assumption | exact (T.alloc _).c | (simp [go_sem]; done) | exact (World.cell?_alloc_lt _ _ ⟨_, _, _⟩ (by first | assumption | omega)).trans (by assumption) | exact (World.cell?_setCell_other _ _ _ _ (by intro e; injection e with e1; exact ng e1.symm)).trans (by assumption) | exact (World.cell?_setCell_other _ _ _ _ (by intro e; injection e with e1; exact ng e1)).trans (by assumption))
              clear hK K
              try simp only [Act.put, List.getElem_toArray, List.getElem_cons_zero, List.getElem_cons_succ, List.setIfInBounds_toArray, List.set_cons_zero, List.set_cons_succ]
              refine wpAnyH_ready (rs := [9]) (by kernel_rfl) (by simp) ?_
              refine AllReadyH.cons rfl (fun K hK => ?_) AllReadyH.nil
              try simp only [List.getElem_toArray, List.getElem_cons_zero, List.getElem_cons_succ]
              go_simp
              refine hK.out _ _ ?_ (fun hHeld => ?_)
              · (try dsimp only); (first | assumption | exact (T.alloc _).c | (simp [go_sem]; done) | exact (World.cell?_alloc_lt _ _ ⟨_, _, _⟩ (by first | assumption | omega)).trans (by assumption) | exact (World.cell?_setCell_other _ _ _ _ (by intro e; injection e with e1; exact ng e1.symm)).trans (by assumption) | exact (World.cell?_setCell_other _ _ _ _ (by intro e; injection e with e1; exact ng e1)).trans (by assumption))
              clear hK K
              try simp only [Act.put, List.getElem_toArray, List.getElem_cons_zero, List.getElem_cons_succ, List.setIfInBounds_toArray, List.set_cons_zero, List.set_cons_succ]
              refine wpAnyH_ready (rs := [10]) (by kernel_rfl) (by simp) ?_
              refine AllReadyH.cons rfl (fun K hK => ?_) AllReadyH.nil
              try simp only [List.getElem_toArray, List.getElem_cons_zero, List.getElem_cons_succ]
              rw [if_pos]
              rotate_left
              · rfl
              refine wp_appendQ (.tmp 58) (.tmp 60) (by rfl) w1.heap.size vA vc q.length (vals q) (by simp [Act.eval, Act.put]) (hro.row_.alloc _) (some ⟨wM.heap.size, 0, none⟩) 1 1 (vals [a]) (by simp [Act.eval, Act.put]) rfl (fun _ => ⟨wM.heap.size, 0, rfl, fun j u hj => by have := cell_one_new wM.drew (.int .u64 (a : Nat)) 30 j u hj; rw [add_form] at this; exact this⟩) (vals_one _) (by omega) (by simp; omega) ?_
              intro A5 c5 w5 ho5 hg5 hbd5 hA5
              have hkA5 : Below wM.heap.size wM (wM.drew.alloc (.cells #[.int .u64 (a : Nat)] 30)) := (by repeat (first | exact Below.refl _ _ | assumption | (refine below_drewN ?_ _) | (refine Below.drew ?_) | (refine Below.alloc ?_ (by first | omega | (simp; omega) | simp) _) | (refine Below.setCell ?_ (by first | omega | (simp; omega) | simp) _) | (refine below_trans ?_ (by assumption) (by first | omega | (simp; omega) | simp))))
              have hs5 := hg5.size
              (try simp only [World.size_alloc, World.size_drew] at hs5)
              have p5 : w5.cell? ⟨w2.heap.size, 0, none⟩ = some (.slice (some ⟨g, 0, none⟩) n c2) := ((grown_cell hg5 0 (show w2.heap.size < (wM.drew.alloc (.cells #[.int .u64 (a : Nat)] 30)).heap.size by simp; omega) (fun e => (hkA _ e).1 rfl)).1).trans (T.later hkA5).c
              have r5 : w5.cell? ⟨g, k, none⟩ = some (.slice vA q.length vc) := ((grown_cell hg5 k (show g < (wM.drew.alloc (.cells #[.int .u64 (a : Nat)] 30)).heap.size by simp; omega) (fun e => (hkA _ e).2.2 rfl)).1).trans ((hkA5.cell (p := ⟨g, k, none⟩) hgw).trans c0)
              have f5 : w5.frozen? ⟨g, k, none⟩ = false := ((grown_cell hg5 k (show g < (wM.drew.alloc (.cells #[.int .u64 (a : Nat)] 30)).heap.size by simp; omega) (fun e => (hkA _ e).2.2 rfl)).2).trans (((bcell hkA5).2 _ _ hgw).trans f0)
              refine hK.out _ _ ?_ (fun hHeld => ?_)
              · (try dsimp only); (first | assumption | exact (T.alloc _).c | (simp [go_sem]; done) | exact (World.cell?_alloc_lt _ _ ⟨_, _, _⟩ (by first | assumption | omega)).trans (by assumption) | exact (World.cell?_setCell_other _ _ _ _ (by intro e; injection e with e1; exact ng e1.symm)).trans (by assumption) | exact (World.cell?_setCell_other _ _ _ _ (by intro e; injection e with e1; exact ng e1)).trans (by assumption))
              clear hK K
              try simp only [Act.put, List.getElem_toArray, List.getElem_cons_zero, List.getElem_cons_succ, List.setIfInBounds_toArray, List.set_cons_zero, List.set_cons_succ]
              refine wpAnyH_take (i := 11) (v := ?_) rfl (by kernel_rfl) (by kernel_rfl) (by kernel_rfl) (fun _ _ _ h => h) (Or.inl ⟨by rfl, ?_⟩) (by assumption) ?_
              rotate_left
              · (intro w hSw; (try dsimp only at hSw); go_simp; first | done | with_reducible rfl)
              try simp only [Act.put, List.getElem_toArray, List.getElem_cons_zero, List.getElem_cons_succ, List.setIfInBounds_toArray, List.set_cons_zero, List.set_cons_succ]
              refine wpAnyH_ready (rs := [12]) (by kernel_rfl) (by simp) ?_
              refine AllReadyH.cons rfl (fun K hK => ?_) AllReadyH.nil
              try simp only [List.getElem_toArray, List.getElem_cons_zero, List.getElem_cons_succ]
              go_simp
              refine hK.out _ _ ?_ (fun hHeld => ?_)
              · (try dsimp only); (first | assumption | exact (T.alloc _).c | (simp [go_sem]; done) | exact (World.cell?_alloc_lt _ _ ⟨_, _, _⟩ (by first | assumption | omega)).trans (by assumption) | exact (World.cell?_setCell_other _ _ _ _ (by intro e; injection e with e1; exact ng e1.symm)).trans (by assumption) | exact (World.cell?_setCell_other _ _ _ _ (by intro e; injection e with e1; exact ng e1)).trans (by assumption))
              clear hK K
              try simp only [Act.put, List.getElem_toArray, List.getElem_cons_zero, List.getElem_cons_succ, List.setIfInBounds_toArray, List.set_cons_zero, List.set_cons_succ]
              refine wpAnyH_done (by kernel_rfl) ?_ _
              have HG6 := HPUT.out (wM.drew.alloc (.cells #[.int .u64 (a : Nat)] 30)) w5 A5 c5 hkA5 hg5 ⟨by simp, HW.out, by rw [vals_app]; exact ho5⟩ hA5
              have hA6 : ∀ b, (A5.map fun a => a.block) = some b → b ≠ w2.heap.size := fun b e => by
                rcases hA5 with h1 | h1
                · rw [h1] at e; exact (hkA b e).1
                · rw [h1] at e
                  injection e with e
                  have e := show (wM.drew.alloc (.cells #[.int .u64 (a : Nat)] 30)).heap.size = b from e
                  simp only [World.size_alloc, World.size_drew] at e
                  omega
              have P6 : Bx (w5.setCell ⟨g, k, none⟩ (.slice A5 (q.length + 1) c5)) w.heap.size (.slice A n cap) := Bx.far ⟨((grown_cell hg5 0 (show w.heap.size < (wM.drew.alloc (.cells #[.int .u64 (a : Nat)] 30)).heap.size by simp; omega) (fun e => (hkA _ e).2.1.1 rfl)).1).trans (P.later hkA5).c, ((grown_cell hg5 0 (show w.heap.size < (wM.drew.alloc (.cells #[.int .u64 (a : Nat)] 30)).heap.size by simp; omega) (fun e => (hkA _ e).2.1.1 rfl)).2).trans (P.later hkA5).f⟩ (by show g ≠ _; omega) _
              have Q6 : Bx (w5.setCell ⟨g, k, none⟩ (.slice A5 (q.length + 1) c5)) (w.heap.size + 1) (.slice none 0 0) := Bx.far ⟨((grown_cell hg5 0 (show w.heap.size + 1 < (wM.drew.alloc (.cells #[.int .u64 (a : Nat)] 30)).heap.size by simp; omega) (fun e => (hkA _ e).2.1.2 rfl)).1).trans (Q.later hkA5).c, ((grown_cell hg5 0 (show w.heap.size + 1 < (wM.drew.alloc (.cells #[.int .u64 (a : Nat)] 30)).heap.size by simp; omega) (fun e => (hkA _ e).2.1.2 rfl)).2).trans (Q.later hkA5).f⟩ (by show g ≠ _; omega) _
              have T6 : Bx (w5.setCell ⟨g, k, none⟩ (.slice A5 (q.length + 1) c5)) w2.heap.size (.slice (some ⟨g, 0, none⟩) n c2) := Bx.far ⟨p5, ((grown_cell hg5 0 (show w2.heap.size < (wM.drew.alloc (.cells #[.int .u64 (a : Nat)] 30)).heap.size by simp; omega) (fun e => (hkA _ e).1 rfl)).2).trans (T.later hkA5).f⟩ (by show g ≠ _; omega) _
              have b6 : Below w.heap.size w (w5.setCell ⟨g, k, none⟩ (.slice A5 (q.length + 1) c5)) := ((hb_wx.trans (hkA5.mono (by omega))).trans (hbd5.mono (by omega))).setCell (p := ⟨g, k, none⟩) (by show _ ≤ g; omega) _
              have z6 : w3.heap.size ≤ (w5.setCell ⟨g, k, none⟩ (.slice A5 (q.length + 1) c5)).heap.size := by rw [World.size_setCell]; omega
              generalize (w5.setCell ⟨g, k, none⟩ (.slice A5 (q.length + 1) c5)) = w6 at *
              go_wp2
              go_roundw
              case rel => exact ⟨j + 1, by go_num, by omega, HO2, _, HQS2.out A5 c5, Lib.hid (by rw [List.length_set]; exact HVL.out), HRB2.out A5 c5 hA6, HG6, P6, Q6, T6, z6, b6⟩
              case measure => simp [intOf]; omega
            · try simp only [List.getElem_toArray, List.getElem_cons_zero, List.getElem_cons_succ]
              go_simp
              refine hK.out _ _ ?_ (fun hHeld => ?_)
              · (try dsimp only); (first | assumption | exact (T.alloc _).c | (simp [go_sem]; done) | exact (World.cell?_alloc_lt _ _ ⟨_, _, _⟩ (by first | assumption | omega)).trans (by assumption) | exact (World.cell?_setCell_other _ _ _ _ (by intro e; injection e with e1; exact ng e1.symm)).trans (by assumption) | exact (World.cell?_setCell_other _ _ _ _ (by intro e; injection e with e1; exact ng e1)).trans (by assumption))
              clear hK K
              try simp only [Act.put, List.getElem_toArray, List.getElem_cons_zero, List.getElem_cons_succ, List.setIfInBounds_toArray, List.set_cons_zero, List.set_cons_succ]
              refine wpAnyH_ready (rs := [7]) (by kernel_rfl) (by simp) ?_
              refine AllReadyH.cons rfl (fun K hK => ?_) AllReadyH.nil
              try simp only [List.getElem_toArray, List.getElem_cons_zero, List.getElem_cons_succ]
              go_simp
              refine hK.out _ _ ?_ (fun hHeld => ?_)
              · (try dsimp only); (first | assumption | exact (T.alloc _).c | (simp [go_sem]; done) | exact (World.cell?_alloc_lt _ _ ⟨_, _, _⟩ (by first | assumption | omega)).trans (by assumption) | exact (World.cell?_setCell_other _ _ _ _ (by intro e; injection e with e1; exact ng e1.symm)).trans (by assumption) | exact (World.cell?_setCell_other _ _ _ _ (by intro e; injection e with e1; exact ng e1)).trans (by assumption))
              clear hK K
              try simp only [Act.put, List.getElem_toArray, List.getElem_cons_zero, List.getElem_cons_succ, List.setIfInBounds_toArray, List.set_cons_zero, List.set_cons_succ]
              refine wpAnyH_ready (rs := [10]) (by kernel_rfl) (by simp) ?_
              refine AllReadyH.cons rfl (fun K hK => ?_) AllReadyH.nil
              try simp only [List.getElem_toArray, List.getElem_cons_zero, List.getElem_cons_succ]
              rw [if_pos]
              rotate_left
              · rfl
              refine wp_appendQ (.tmp 58) (.tmp 60) (by rfl) w1.heap.size vA vc q.length (vals q) (by simp [Act.eval, Act.put]) (hro.row_.alloc _) (some ⟨wM.heap.size, 0, none⟩) 1 1 (vals [a]) (by simp [Act.eval, Act.put]) rfl (fun _ => ⟨wM.heap.size, 0, rfl, fun j u hj => by have := cell_one_new wM.drew (.int .u64 (a : Nat)) 30 j u hj; rw [add_form] at this; exact this⟩) (vals_one _) (by omega) (by simp; omega) ?_
              intro A5 c5 w5 ho5 hg5 hbd5 hA5
              have hkA5 : Below wM.heap.size wM (wM.drew.alloc (.cells #[.int .u64 (a : Nat)] 30)) := (by repeat (first | exact Below.refl _ _ | assumption | (refine below_drewN ?_ _) | (refine Below.drew ?_) | (refine Below.alloc ?_ (by first | omega | (simp; omega) | simp) _) | (refine Below.setCell ?_ (by first | omega | (simp; omega) | simp) _) | (refine below_trans ?_ (by assumption) (by first | omega | (simp; omega) | simp))))
              have hs5 := hg5.size
              (try simp only [World.size_alloc, World.size_drew] at hs5)
              have p5 : w5.cell? ⟨w2.heap.size, 0, none⟩ = some (.slice (some ⟨g, 0, none⟩) n c2) := ((grown_cell hg5 0 (show w2.heap.size < (wM.drew.alloc (.cells #[.int .u64 (a : Nat)] 30)).heap.size by simp; omega) (fun e => (hkA _ e).1 rfl)).1).trans (T.later hkA5).c
              have r5 : w5.cell? ⟨g, k, none⟩ = some (.slice vA q.length vc) := ((grown_cell hg5 k (show g < (wM.drew.alloc (.cells #[.int .u64 (a : Nat)] 30)).heap.size by simp; omega) (fun e => (hkA _ e).2.2 rfl)).1).trans ((hkA5.cell (p := ⟨g, k, none⟩) hgw).trans c0)
              have f5 : w5.frozen? ⟨g, k, none⟩ = false := ((grown_cell hg5 k (show g < (wM.drew.alloc (.cells #[.int .u64 (a : Nat)] 30)).heap.size by simp; omega) (fun e => (hkA _ e).2.2 rfl)).2).trans (((bcell hkA5).2 _ _ hgw).trans f0)
              refine hK.out _ _ ?_ (fun hHeld => ?_)
              · (try dsimp only); (first | assumption | exact (T.alloc _).c | (simp [go_sem]; done) | exact (World.cell?_alloc_lt _ _ ⟨_, _, _⟩ (by first | assumption | omega)).trans (by assumption) | exact (World.cell?_setCell_other _ _ _ _ (by intro e; injection e with e1; exact ng e1.symm)).trans (by assumption) | exact (World.cell?_setCell_other _ _ _ _ (by intro e; injection e with e1; exact ng e1)).trans (by assumption))
              clear hK K
              try simp only [Act.put, List.getElem_toArray, List.getElem_cons_zero, List.getElem_cons_succ, List.setIfInBounds_toArray, List.set_cons_zero, List.set_cons_succ]
              refine wpAnyH_take (i := 11) (v := ?_) rfl (by kernel_rfl) (by kernel_rfl) (by kernel_rfl) (fun _ _ _ h => h) (Or.inl ⟨by rfl, ?_⟩) (by assumption) ?_
              rotate_left
              · (intro w hSw; (try dsimp only at hSw); go_simp; first | done | with_reducible rfl)
              try simp only [Act.put, List.getElem_toArray, List.getElem_cons_zero, List.getElem_cons_succ, List.setIfInBounds_toArray, List.set_cons_zero, List.set_cons_succ]
              refine wpAnyH_ready (rs := [12]) (by kernel_rfl) (by simp) ?_
              refine AllReadyH.cons rfl (fun K hK => ?_) AllReadyH.nil
              try simp only [List.getElem_toArray, List.getElem_cons_zero, List.getElem_cons_succ]
              go_simp
              refine hK.out _ _ ?_ (fun hHeld => ?_)
              · (try dsimp only); (first | assumption | exact (T.alloc _).c | (simp [go_sem]; done) | exact (World.cell?_alloc_lt _ _ ⟨_, _, _⟩ (by first | assumption | omega)).trans (by assumption) | exact (World.cell?_setCell_other _ _ _ _ (by intro e; injection e with e1; exact ng e1.symm)).trans (by assumption) | exact (World.cell?_setCell_other _ _ _ _ (by intro e; injection e with e1; exact ng e1)).trans (by assumption))
              clear hK K
              try simp only [Act.put, List.getElem_toArray, List.getElem_cons_zero, List.getElem_cons_succ, List.setIfInBounds_toArray, List.set_cons_zero, List.set_cons_succ]
              refine wpAnyH_done (by kernel_rfl) ?_ _
              have HG6 := HPUT.out (wM.drew.alloc (.cells #[.int .u64 (a : Nat)] 30)) w5 A5 c5 hkA5 hg5 ⟨by simp, HW.out, by rw [vals_app]; exact ho5⟩ hA5
              have hA6 : ∀ b, (A5.map fun a => a.block) = some b → b ≠ w2.heap.size := fun b e => by
                rcases hA5 with h1 | h1
                · rw [h1] at e; exact (hkA b e).1
                · rw [h1] at e
                  injection e with e
                  have e := show (wM.drew.alloc (.cells #[.int .u64 (a : Nat)] 30)).heap.size = b from e
                  simp only [World.size_alloc, World.size_drew] at e
                  omega
              have P6 : Bx (w5.setCell ⟨g, k, none⟩ (.slice A5 (q.length + 1) c5)) w.heap.size (.slice A n cap) := Bx.far ⟨((grown_cell hg5 0 (show w.heap.size < (wM.drew.alloc (.cells #[.int .u64 (a : Nat)] 30)).heap.size by simp; omega) (fun e => (hkA _ e).2.1.1 rfl)).1).trans (P.later hkA5).c, ((grown_cell hg5 0 (show w.heap.size < (wM.drew.alloc (.cells #[.int .u64 (a : Nat)] 30)).heap.size by simp; omega) (fun e => (hkA _ e).2.1.1 rfl)).2).trans (P.later hkA5).f⟩ (by show g ≠ _; omega) _
              have Q6 : Bx (w5.setCell ⟨g, k, none⟩ (.slice A5 (q.length + 1) c5)) (w.heap.size + 1) (.slice none 0 0) := Bx.far ⟨((grown_cell hg5 0 (show w.heap.size + 1 < (wM.drew.alloc (.cells #[.int .u64 (a : Nat)] 30)).heap.size by simp; omega) (fun e => (hkA _ e).2.1.2 rfl)).1).trans (Q.later hkA5).c, ((grown_cell hg5 0 (show w.heap.size + 1 < (wM.drew.alloc (.cells #[.int .u64 (a : Nat)] 30)).heap.size by simp; omega) (fun e => (hkA _ e).2.1.2 rfl)).2).trans (Q.later hkA5).f⟩ (by show g ≠ _; omega) _
              have T6 : Bx (w5.setCell ⟨g, k, none⟩ (.slice A5 (q.length + 1) c5)) w2.heap.size (.slice (some ⟨g, 0, none⟩) n c2) := Bx.far ⟨p5, ((grown_cell hg5 0 (show w2.heap.size < (wM.drew.alloc (.cells #[.int .u64 (a : Nat)] 30)).heap.size by simp; omega) (fun e => (hkA _ e).1 rfl)).2).trans (T.later hkA5).f⟩ (by show g ≠ _; omega) _
              have b6 : Below w.heap.size w (w5.setCell ⟨g, k, none⟩ (.slice A5 (q.length + 1) c5)) := ((hb_wx.trans (hkA5.mono (by omega))).trans (hbd5.mono (by omega))).setCell (p := ⟨g, k, none⟩) (by show _ ≤ g; omega) _
              have z6 : w3.heap.size ≤ (w5.setCell ⟨g, k, none⟩ (.slice A5 (q.length + 1) c5)).heap.size := by rw [World.size_setCell]; omega
              generalize (w5.setCell ⟨g, k, none⟩ (.slice A5 (q.length + 1) c5)) = w6 at *
              go_wp2
              go_roundw
              case rel => exact ⟨j + 1, by go_num, by omega, HO2, _, HQS2.out A5 c5, Lib.hid (by rw [List.length_set]; exact HVL.out), HRB2.out A5 c5 hA6, HG6, P6, Q6, T6, z6, b6⟩
              case measure => simp [intOf]; omega
    · obtain rfl : j = us.length := by omega
      have hy : y = 0 := by rw [← HY.out.1]; exact adds_end HO.out
      subst hy
      have HRr := Lib.hid (HY.out.2.2 rfl)
      have HRl : Hid (r.length = n) := Lib.hid (by rw [HRr.out, List.length_set]; exact hn.out)
      have HO5 := Lib.hid ((o4.far (p := ⟨w.heap.size + 1, 0, none⟩) (by show w.heap.size + 1 < w1.heap.size; omega) (.slice (some ⟨g, 0, none⟩) n c2)).own (by rw [HQS.out]; exact qlim_set hlim _ _ (by have := nq_len_le qs k; rw [List.length_append] at g3 ⊢; have := HGD.out.len; rw [List.length_take] at *; omega)))
      rw [HQS.out, List.take_length, ← HRr.out] at HO5
      clear o4 hrow hperm hpl g1 g2 g3
      go_wp2
      first
        | exact bodyPost_ret (res_g2 rfl rfl (g := w.heap.size + 1) (v0 := .slice (some ⟨g, 0, none⟩) n c2) (by first | exact World.cell?_setCell_same _ _ _ q0 | exact World.cell?_setCell_same _ _ _ (by first | exact q0 | (exact (World.cell?_alloc_lt _ _ ⟨_, _, _⟩ (by first | omega | (simp; omega) | simp)).trans q0) | (exact (World.cell?_alloc_lt _ _ ⟨_, _, _⟩ (by first | omega | (simp; omega) | simp)).trans ((World.cell?_alloc_lt _ _ ⟨_, _, _⟩ (by first | omega | (simp; omega) | simp)).trans q0)) | (simp [go_sem, q0]; done)) | exact (World.cell?_alloc_lt _ _ ⟨_, _, _⟩ (by first | omega | (simp; omega) | simp)).trans (World.cell?_setCell_same _ _ _ q0) | (simp [go_sem, q0]; done))) rfl ⟨some ⟨g, 0, none⟩, c2, by rw [HRl.out]; rfl, HO5.out.mono (by omega), (by repeat (first | exact Below.refl _ _ | assumption | (refine below_drewN ?_ _) | (refine Below.drew ?_) | (refine Below.alloc ?_ (by first | omega | (simp; omega) | simp) _) | (refine Below.setCell ?_ (by first | omega | (simp; omega) | simp) _) | (refine below_trans ?_ (by assumption) (by first | omega | (simp; omega) | simp))))⟩
        | exact bodyPost_ret (res_g2 rfl rfl (g := w.heap.size + 1) (v0 := .slice (some ⟨g, 0, none⟩) n c2) (by first | exact World.cell?_setCell_same _ _ _ q0 | exact World.cell?_setCell_same _ _ _ (by first | exact q0 | (exact (World.cell?_alloc_lt _ _ ⟨_, _, _⟩ (by first | omega | (simp; omega) | simp)).trans q0) | (exact (World.cell?_alloc_lt _ _ ⟨_, _, _⟩ (by first | omega | (simp; omega) | simp)).trans ((World.cell?_alloc_lt _ _ ⟨_, _, _⟩ (by first | omega | (simp; omega) | simp)).trans q0)) | (simp [go_sem, q0]; done)) | exact (World.cell?_alloc_lt _ _ ⟨_, _, _⟩ (by first | omega | (simp; omega) | simp)).trans (World.cell?_setCell_same _ _ _ q0) | (simp [go_sem, q0]; done))) rfl ⟨some ⟨g, 0, none⟩, ⟨c2, by rw [HRl.out]; rfl⟩, HO5.out.mono (by omega), (by repeat (first | exact Below.refl _ _ | assumption | (refine below_drewN ?_ _) | (refine Below.drew ?_) | (refine Below.alloc ?_ (by first | omega | (simp; omega) | simp) _) | (refine Below.setCell ?_ (by first | omega | (simp; omega) | simp) _) | (refine below_trans ?_ (by assumption) (by first | omega | (simp; omega) | simp))))⟩
        | trace_state
end
end Go.Proofs.Ytlaladhnidcoiaa
