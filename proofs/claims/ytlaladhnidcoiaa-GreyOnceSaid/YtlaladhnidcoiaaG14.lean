/- Contract of the document's Pop. -/
import Derived.Test.YtlaladhnidcoiaaG13
namespace Go.Proofs.Ytlaladhnidcoiaa
open Go.RowKit
set_option linter.unusedVariables false
set_option linter.unusedSimpArgs false

/-- queues of which one is cut, its room left -/
theorem gown_cut2 {w : World} {B c g k m cc : Nat} {vs : List Qv} {q : List Nat} {A2 : Option Addr} (h : GTwin w B (some ⟨g, 0, none⟩) c vs) (hl : QLim (qsOf vs)) (hB : B ≤ g) (hg : g < w.heap.size) (hk : k < vs.length) (hm : q.length = m) (hq : QOwn w B A2 q) (hqg : ∀ o, A2 ≠ some ⟨g, o, none⟩) (hn : A2 = none → cc = 0) (hmc : m ≤ cc) (hle : m ≤ 17592186044416) :
    GOwn (w.setCell ⟨g, k, none⟩ (.slice A2 m cc)) B (some ⟨g, 0, none⟩) ((qsOf vs).set k q) :=
  ⟨qlim_set hl _ _ (by omega), fun h0 => by
    refine ⟨g, rfl, hB, by simpa using hg, fun i hi => ?_⟩
    rw [List.length_set, qsOf_len] at hi
    rw [nq_set _ _ _ _ (by rw [qsOf_len]; exact hk)]
    by_cases e : i = k
    · subst e
      rw [if_pos rfl]
      exact ⟨A2, cc, by rw [hm]; exact World.cell?_setCell_same _ _ _ (h.cell i hi), hq.set hqg _, hqg, by omega, hn⟩
    · rw [if_neg e]
      have hr := h.rows i hi
      have hne : ∀ o, vs[i].A ≠ some ⟨g, o, none⟩ := owns_not hr (h.off i hi g rfl)
      refine ⟨vs[i].A, vs[i].c, ?_, by rw [qsOf_at vs i hi]; exact (QOwn.of_owns hr).set hne _, hne, by rw [qsOf_at vs i hi]; exact hr.cap_, hr.nil_⟩
      rw [World.cell?_setCell_other _ _ _ _ (by intro e2; injection e2 with _ e2; exact e e2.symm), qsOf_at vs i hi]
      exact h.cell i hi⟩
section
variable {w : World} {A : Option Addr} {qs : List (List Nat)} (cap : Nat)
set_option maxHeartbeats 8000000 in
theorem xgpop_any (hr : GRow w A qs) (x : Int) (hx : -9223372036854775808 ≤ x ∧ x ≤ 9223372036854775807) (r : List (List Nat)) (a : Nat) (s : Bool) (y : Int) (hE : PopE qs x r a s y) :
    Calls Try.prog 13 #[gv A qs.length cap, .int .i64 x] w fun e w' => PopG w r a s y e w' := by
  unfold PopG
  have hlim := hr.lim
  by_cases hok : OkG qs
  rotate_left
  · have HV := Lib.hid fun (w : World) hr => xgcheck_any (w := w) (A := A) (qs := qs) cap hr 2 (.inr ⟨hok, rfl⟩)
    have e1 : r = [] ∧ a = 0 ∧ s = false ∧ y = 2 := by
      rcases hE with ⟨_, h⟩ | ⟨h, _⟩ | ⟨h, _⟩ | ⟨h, _⟩ | ⟨h, _⟩
      · exact h
      all_goals exact absurd h hok
    obtain ⟨rfl, rfl, rfl, rfl⟩ := e1
    clear hE hok
    unfold gv at *
    go_enter Try.func13, Try.ntmps13
    go_wp2_with fail
    go_at_call 21
    refine (HV.out _ (hr.later (by repeat (first | exact Below.refl _ _ | assumption | (refine below_drewN ?_ _) | (refine Below.drew ?_) | (refine Below.alloc ?_ (by first | omega | (simp; omega) | simp) _) | (refine Below.setCell ?_ (by first | omega | (simp; omega) | simp) _) | (refine below_trans ?_ (by assumption) (by first | omega | (simp; omega) | simp)))))).mono ?_
    rintro e w1 ⟨rfl, hb_w1⟩
    obtain ⟨hc_w1, hf_w1⟩ := bcell hb_w1; have hz_w1_w_0 : w.heap.size < w1.heap.size := (by have hzz := hb_w1.size; (try simp only [World.size_alloc, World.size_setCell, World.size_drew, World.heap_drewN] at hzz); omega); have hz_w1_w_1 : w.heap.size + 1 < w1.heap.size := (by have hzz := hb_w1.size; (try simp only [World.size_alloc, World.size_setCell, World.size_drew, World.heap_drewN] at hzz); omega); have hs_w1 := hb_w1.size; (try simp only [World.size_alloc, World.size_setCell, World.size_drew, World.heap_drewN] at hs_w1)
    obtain ⟨q0, q1⟩ := ((Bx.new (w.alloc _) _ _).later hb_w1 : Bx w1 _ _)
    simp only [World.size_alloc] at q0 q1
    clear hc_w1 hf_w1
    go_wp2
    exact bodyPost_ret (res_g4 rfl rfl (g := w.heap.size + 1) (v0 := .slice none 0 0) (by first | exact World.cell?_setCell_same _ _ _ q0 | exact World.cell?_setCell_same _ _ _ (by first | exact q0 | (exact (World.cell?_alloc_lt _ _ ⟨_, _, _⟩ (by first | omega | (simp; omega) | simp)).trans q0) | (exact (World.cell?_alloc_lt _ _ ⟨_, _, _⟩ (by first | omega | (simp; omega) | simp)).trans ((World.cell?_alloc_lt _ _ ⟨_, _, _⟩ (by first | omega | (simp; omega) | simp)).trans q0)) | (simp [go_sem, q0]; done)) | exact (World.cell?_alloc_lt _ _ ⟨_, _, _⟩ (by first | omega | (simp; omega) | simp)).trans (World.cell?_setCell_same _ _ _ q0) | (simp [go_sem, q0]; done))) rfl ⟨none, 0, rfl, GOwn.nil _ _ _, (by repeat (first | exact Below.refl _ _ | assumption | (refine below_drewN ?_ _) | (refine Below.drew ?_) | (refine Below.alloc ?_ (by first | omega | (simp; omega) | simp) _) | (refine Below.setCell ?_ (by first | omega | (simp; omega) | simp) _) | (refine below_trans ?_ (by assumption) (by first | omega | (simp; omega) | simp))))⟩
  have HV := Lib.hid fun (w : World) hr => xgcheck_any (w := w) (A := A) (qs := qs) cap hr 0 (.inl ⟨hok, rfl⟩)
  have HT := Lib.hid fun (w : World) hr => xgcopy_any (w := w) (A := A) (qs := qs) cap hr
  unfold TwinG at HT
  have hlo := hok.lo
  have hhi := hok.hi
  obtain ⟨n, hn⟩ : ∃ n, Hid (qs.length = n) := ⟨_, rfl⟩
  have hmn : lng qs < qs.length := lng_lt hlo
  rw [hn.out] at hlo hhi hmn
  rw [hn.out] at HV HT ⊢
  by_cases hh : hasG qs x
  rotate_left
  · have e1 : r = qs ∧ a = 0 ∧ s = false ∧ y = 11 := by
      rcases hE with ⟨h, _⟩ | ⟨_, _, h⟩ | ⟨_, h, _⟩ | ⟨_, h, _⟩ | ⟨_, h, _⟩
      · exact absurd hok h
      · exact h
      all_goals exact absurd h hh
    obtain ⟨hr1, rfl, rfl, rfl⟩ := e1
    have HR := Lib.hid hr1
    have HRl : Hid (r.length = n) := Lib.hid (by rw [hr1]; exact hn.out)
    have hor : x < 0 ∨ (0 ≤ x ∧ (n : Int) ≤ x) := by
      unfold hasG at hh
      rw [hn.out] at hh
      omega
    clear hE hok hh hr1
    unfold gv at *
    have key : ∀ (d1 : decide (x < 0) = true ∨ (decide (x < 0) = false ∧ decide ((n : Int) ≤ x) = true)), Calls Try.prog 13 #[.agg #[.slice A n cap], .int .i64 x] w fun e w' => ∃ (B : Option Addr) (cb : Nat), e = .returned (.tuple #[.agg #[.slice B r.length cb], .int .u64 (0 : Nat), .bool false, .int .i64 11]) ∧ GOwn w' w.heap.size B r ∧ Below w.heap.size w w' := by
      clear hor
      rintro (d1 | ⟨d1, d2⟩)
      all_goals
        go_enter Try.func13, Try.ntmps13
        go_wp2_with fail
        go_at_call 21
        refine (HV.out _ (hr.later (by repeat (first | exact Below.refl _ _ | assumption | (refine below_drewN ?_ _) | (refine Below.drew ?_) | (refine Below.alloc ?_ (by first | omega | (simp; omega) | simp) _) | (refine Below.setCell ?_ (by first | omega | (simp; omega) | simp) _) | (refine below_trans ?_ (by assumption) (by first | omega | (simp; omega) | simp)))))).mono ?_
        rintro e w1 ⟨rfl, hb_w1⟩
        obtain ⟨hc_w1, hf_w1⟩ := bcell hb_w1; have hz_w1_w_0 : w.heap.size < w1.heap.size := (by have hzz := hb_w1.size; (try simp only [World.size_alloc, World.size_setCell, World.size_drew, World.heap_drewN] at hzz); omega); have hz_w1_w_1 : w.heap.size + 1 < w1.heap.size := (by have hzz := hb_w1.size; (try simp only [World.size_alloc, World.size_setCell, World.size_drew, World.heap_drewN] at hzz); omega); have hs_w1 := hb_w1.size; (try simp only [World.size_alloc, World.size_setCell, World.size_drew, World.heap_drewN] at hs_w1)
        have b1 : Below w.heap.size w w1 := (by repeat (first | exact Below.refl _ _ | assumption | (refine below_drewN ?_ _) | (refine Below.drew ?_) | (refine Below.alloc ?_ (by first | omega | (simp; omega) | simp) _) | (refine Below.setCell ?_ (by first | omega | (simp; omega) | simp) _) | (refine below_trans ?_ (by assumption) (by first | omega | (simp; omega) | simp))))
        have Q := ((Bx.new (w.alloc _) _ _).later hb_w1 : Bx w1 _ _)
        have P := ((Bx.new w _ _).alloc _ |>.later hb_w1 : Bx w1 _ _)
        simp only [World.size_alloc] at Q
        obtain ⟨p0, p1⟩ := id P
        clear hc_w1 hf_w1
        go_wp2_with fail
        go_at_call 9
        refine (HT.out _ ((hr.later b1).later (by repeat (first | exact Below.refl _ _ | assumption | (refine below_drewN ?_ _) | (refine Below.drew ?_) | (refine Below.alloc ?_ (by first | omega | (simp; omega) | simp) _) | (refine Below.setCell ?_ (by first | omega | (simp; omega) | simp) _) | (refine below_trans ?_ (by assumption) (by first | omega | (simp; omega) | simp)))))).mono ?_
        rintro e w2 ⟨B2, c2, vs, rfl, hvs, o2, hb_w2⟩
        obtain ⟨hc_w2, hf_w2⟩ := bcell hb_w2; have hs_w2 := hb_w2.size; (try simp only [World.size_alloc, World.size_setCell, World.size_drew, World.heap_drewN] at hs_w2)
        have Q := (Q.later hb_w2 : Bx w2 _ _)
        have P := (P.later hb_w2 : Bx w2 _ _)
        have P3 := P.set (.slice B2 n c2)
        have Q3 := Q.far (p := ⟨w.heap.size, 0, none⟩) (by simp) (.slice B2 n c2)
        have b3 : Below w.heap.size w (w2.setCell ⟨w.heap.size, 0, none⟩ (.slice B2 n c2)) := (by repeat (first | exact Below.refl _ _ | assumption | (refine below_drewN ?_ _) | (refine Below.drew ?_) | (refine Below.alloc ?_ (by first | omega | (simp; omega) | simp) _) | (refine Below.setCell ?_ (by first | omega | (simp; omega) | simp) _) | (refine below_trans ?_ (by assumption) (by first | omega | (simp; omega) | simp))))
        have o3 := o2.far (p := ⟨w.heap.size, 0, none⟩) (by show w.heap.size < w1.heap.size; omega) (.slice B2 n c2)
        obtain ⟨p0, p1⟩ := id P
        obtain ⟨q0, q1⟩ := id Q
        clear hc_w2 hf_w2 o2
        go_wp2_with fail
        generalize (w2.setCell ⟨w.heap.size, 0, none⟩ (.slice B2 n c2)) = w3 at *
        obtain ⟨p0, p1⟩ := id P3
        obtain ⟨q0, q1⟩ := id Q3
        have HO := Lib.hid ((o3.far (p := ⟨w.heap.size + 1, 0, none⟩) (by show w.heap.size + 1 < w1.heap.size; omega) (.slice B2 n c2)).own (by rw [hvs]; exact hlim))
        rw [hvs, ← HR.out] at HO
        clear o3
        go_wp2
        exact bodyPost_ret (res_g4 rfl rfl (g := w.heap.size + 1) (v0 := .slice B2 n c2) (by first | exact World.cell?_setCell_same _ _ _ q0 | exact World.cell?_setCell_same _ _ _ (by first | exact q0 | (exact (World.cell?_alloc_lt _ _ ⟨_, _, _⟩ (by first | omega | (simp; omega) | simp)).trans q0) | (exact (World.cell?_alloc_lt _ _ ⟨_, _, _⟩ (by first | omega | (simp; omega) | simp)).trans ((World.cell?_alloc_lt _ _ ⟨_, _, _⟩ (by first | omega | (simp; omega) | simp)).trans q0)) | (simp [go_sem, q0]; done)) | exact (World.cell?_alloc_lt _ _ ⟨_, _, _⟩ (by first | omega | (simp; omega) | simp)).trans (World.cell?_setCell_same _ _ _ q0) | (simp [go_sem, q0]; done))) rfl ⟨B2, c2, by rw [HRl.out]; rfl, HO.out.mono (by omega), (by repeat (first | exact Below.refl _ _ | assumption | (refine below_drewN ?_ _) | (refine Below.drew ?_) | (refine Below.alloc ?_ (by first | omega | (simp; omega) | simp) _) | (refine Below.setCell ?_ (by first | omega | (simp; omega) | simp) _) | (refine below_trans ?_ (by assumption) (by first | omega | (simp; omega) | simp))))⟩
    exact key (by
      rcases hor with h | ⟨h1, h2⟩
      · exact .inl (by simpa using h)
      · exact .inr ⟨by simp; omega, by simpa using h2⟩)
  obtain ⟨k, rfl⟩ := Int.eq_ofNat_of_zero_le hh.1
  have hkn : k < n := by have := hh.2; rw [hn.out] at this; omega
  have hk2 : (k : Int).toNat = k := Int.toNat_natCast k
  unfold PopE at hE
  simp only [hk2] at hE
  clear hk2
  have HY : Hid ((0 < (nq qs k).length ∧ r = qs.set k ((nq qs k).take ((nq qs k).length - 1)) ∧ a = (nq qs k).getD ((nq qs k).length - 1) 0 ∧ s = false ∧ y = 0) ∨
      ((nq qs k).length = 0 ∧ (nq qs (lng qs)).length = 0 ∧ r = qs ∧ a = 0 ∧ s = false ∧ y = 3) ∨
      ((nq qs k).length = 0 ∧ 0 < (nq qs (lng qs)).length ∧ r = qs.set (lng qs) ((nq qs (lng qs)).drop 1) ∧ a = (nq qs (lng qs)).getD 0 0 ∧ s = true ∧ y = 0)) := Lib.hid (by
    rcases hE with ⟨h, _⟩ | ⟨_, h, _⟩ | ⟨_, _, h⟩ | ⟨_, _, h⟩ | ⟨_, _, h⟩
    · exact absurd hok h
    · exact absurd hh h
    · exact .inl h
    · exact .inr (.inl h)
    · exact .inr (.inr h))
  have HLIM := Lib.hid hlim
  clear hE hok hh hlim
  unfold gv at *
  have i1 : (k : Int) < (n : Int) := by omega
  have i2 : (0 : Int) ≤ (k : Int) := by omega
  have f1 : decide ((k : Int) < 0) = false := by simp
  have f2 : decide ((n : Int) ≤ (k : Int)) = false := by simp; omega
  have f3 : decide (n ≤ k) = false := by simp; omega
  have f4 : ¬ n ≤ k := by omega
  go_enter Try.func13, Try.ntmps13
  go_wp2_with fail
  go_at_call 21
  refine (HV.out _ (hr.later (by repeat (first | exact Below.refl _ _ | assumption | (refine below_drewN ?_ _) | (refine Below.drew ?_) | (refine Below.alloc ?_ (by first | omega | (simp; omega) | simp) _) | (refine Below.setCell ?_ (by first | omega | (simp; omega) | simp) _) | (refine below_trans ?_ (by assumption) (by first | omega | (simp; omega) | simp)))))).mono ?_
  rintro e w1 ⟨rfl, hb_w1⟩
  obtain ⟨hc_w1, hf_w1⟩ := bcell hb_w1; have hz_w1_w_0 : w.heap.size < w1.heap.size := (by have hzz := hb_w1.size; (try simp only [World.size_alloc, World.size_setCell, World.size_drew, World.heap_drewN] at hzz); omega); have hz_w1_w_1 : w.heap.size + 1 < w1.heap.size := (by have hzz := hb_w1.size; (try simp only [World.size_alloc, World.size_setCell, World.size_drew, World.heap_drewN] at hzz); omega); have hs_w1 := hb_w1.size; (try simp only [World.size_alloc, World.size_setCell, World.size_drew, World.heap_drewN] at hs_w1)
  have b1 : Below w.heap.size w w1 := (by repeat (first | exact Below.refl _ _ | assumption | (refine below_drewN ?_ _) | (refine Below.drew ?_) | (refine Below.alloc ?_ (by first | omega | (simp; omega) | simp) _) | (refine Below.setCell ?_ (by first | omega | (simp; omega) | simp) _) | (refine below_trans ?_ (by assumption) (by first | omega | (simp; omega) | simp))))
  have Q := ((Bx.new (w.alloc _) _ _).later hb_w1 : Bx w1 _ _)
  have P := ((Bx.new w _ _).alloc _ |>.later hb_w1 : Bx w1 _ _)
  simp only [World.size_alloc] at Q
  obtain ⟨p0, p1⟩ := id P
  clear hc_w1 hf_w1
  go_wp2_with fail
  go_at_call 9
  refine (HT.out _ ((hr.later b1).later (by repeat (first | exact Below.refl _ _ | assumption | (refine below_drewN ?_ _) | (refine Below.drew ?_) | (refine Below.alloc ?_ (by first | omega | (simp; omega) | simp) _) | (refine Below.setCell ?_ (by first | omega | (simp; omega) | simp) _) | (refine below_trans ?_ (by assumption) (by first | omega | (simp; omega) | simp)))))).mono ?_
  rintro e w2 ⟨B2, c2, vs, rfl, hvs, o2, hb_w2⟩
  obtain ⟨hc_w2, hf_w2⟩ := bcell hb_w2; have hs_w2 := hb_w2.size; (try simp only [World.size_alloc, World.size_setCell, World.size_drew, World.heap_drewN] at hs_w2)
  have Q := (Q.later hb_w2 : Bx w2 _ _)
  have P := (P.later hb_w2 : Bx w2 _ _)
  have hvl : vs.length = n := by rw [← qsOf_len, hvs]; exact hn.out
  obtain ⟨g, rfl, hg1, hg2⟩ := o2.adr (by omega)
  have P3 := P.set (.slice (some ⟨g, 0, none⟩) n c2)
  have Q3 := Q.far (p := ⟨w.heap.size, 0, none⟩) (by simp) (.slice (some ⟨g, 0, none⟩) n c2)
  have b3 : Below w.heap.size w (w2.setCell ⟨w.heap.size, 0, none⟩ (.slice (some ⟨g, 0, none⟩) n c2)) := (by repeat (first | exact Below.refl _ _ | assumption | (refine below_drewN ?_ _) | (refine Below.drew ?_) | (refine Below.alloc ?_ (by first | omega | (simp; omega) | simp) _) | (refine Below.setCell ?_ (by first | omega | (simp; omega) | simp) _) | (refine below_trans ?_ (by assumption) (by first | omega | (simp; omega) | simp))))
  have o3 := o2.far (p := ⟨w.heap.size, 0, none⟩) (by show w.heap.size < w1.heap.size; omega) (.slice (some ⟨g, 0, none⟩) n c2)
  have z3 : g < (w2.setCell ⟨w.heap.size, 0, none⟩ (.slice (some ⟨g, 0, none⟩) n c2)).heap.size := by rw [World.size_setCell]; exact hg2
  obtain ⟨p0, p1⟩ := id P
  obtain ⟨q0, q1⟩ := id Q
  have c0x := o3.cell k (by omega)
  have e0 : vs[k].q = nq qs k := by rw [← hvs, qsOf_at _ _ (by omega)]
  rw [e0] at c0x
  clear hc_w2 hf_w2 o2
  have HVS := Lib.hid hvs
  have f0x := o3.hd.frozenAt k
  have hB : w1.heap.size ≤ g := hg1
  have ng : g ≠ w.heap.size := by omega
  have ng2 : g ≠ w.heap.size + 1 := by omega
  rcases HY.out with ⟨h0, hr1, ha, rfl, rfl⟩ | ⟨h0, h1, hr1, rfl, rfl, rfl⟩ | ⟨h0, h1, hr1, ha, rfl, rfl⟩
  · have hkl : k < vs.length := by omega
    have hro := o3.rows k hkl
    have hof := o3.off k hkl g rfl
    have f0 := o3.hd.frozenAt k
    rw [e0] at hro
    have hlm := HLIM.out.each k
    obtain ⟨q, HQ⟩ : ∃ q, Hid (nq qs k = q) := ⟨_, rfl⟩
    rw [HQ.out] at hro hlm c0x h0 hr1 ha
    obtain ⟨m, hm⟩ : ∃ m : Nat, q.length = m + 1 := ⟨q.length - 1, by omega⟩
    obtain ⟨bq, eA, hbB, hbg, hcq⟩ := hro.own.at_ h0
    have hcap := hro.cap_
    have cq := (hcq m (by omega)).1
    have hqr := QOwn.of_owns hro
    rw [hm, show m + 1 - 1 = m by omega] at hr1 ha
    have HLL := Lib.hid hm
    have HR := Lib.hid hr1
    have HRl : Hid (r.length = n) := Lib.hid (by rw [hr1, List.length_set]; exact hn.out)
    rw [← ha] at cq
    have hne : bq ≠ g := fun e => hof (by rw [eA, e])
    have HG8 := Lib.hid (gown_cut2 (m := m) (cc := vs[k].c) (q := q.take m) (A2 := vs[k].A) o3 (by rw [hvs]; exact HLIM.out) hB z3 hkl (by rw [List.length_take]; omega) (hqr.take _) (owns_not hro hof) hro.nil_ (by omega) (by omega))
    rw [HVS.out, ← HR.out, eA] at HG8
    rw [eA, hm] at c0x
    have d1 : (0 : Int) < (m : Int) + 1 := by omega
    have e3 : IntKind.i64.wrap (m : Int) = (m : Int) := by rw [IntWalk.i64_in _ (by omega)]
    have i4 : (0 : Int) ≤ (m : Int) := by omega
    have i3 : (m : Int) ≤ (vs[k].c : Int) := by omega
    have i5 : (m : Int) < (m : Int) + 1 := by omega
    have ha0 : (⟨bq, 0, none⟩ : Addr).add 0 = ⟨bq, 0, none⟩ := by simp [Addr.add]
    have nb1 : bq ≠ w.heap.size := by omega
    have nb2 : bq ≠ w.heap.size + 1 := by omega
    have hvc : ¬ vs[k].c = 0 := by omega
    have i3n : m ≤ vs[k].c := by omega
    rw [hm] at hcap
    clear o3 hro hof hcq hqr hr1 ha hm hvs hlm h0
    generalize vs[k].c = vc at *
    go_wp2_with fail
    generalize (w2.setCell ⟨w.heap.size, 0, none⟩ (.slice (some ⟨g, 0, none⟩) n c2)) = w3 at *
    clear p0 p1 q0 q1 P Q
    obtain ⟨p0, p1⟩ := id P3
    obtain ⟨q0, q1⟩ := id Q3
    go_region_held3 (fun X : World => X.cell? ⟨w.heap.size, 0, none⟩ = some (.slice (some ⟨g, 0, none⟩) n c2))
      ((first | assumption | exact p0 | exact (World.cell?_setCell_other _ _ _ _ (by intro e; injection e with e1; exact ng e1.symm)).trans (by assumption) | exact (World.cell?_setCell_other _ _ _ _ (by intro e; injection e with e1; exact ng e1)).trans (by assumption)))
      (fail)
    all_goals
      have kd : Below w3.heap.size w3 w3.drew := (by repeat (first | exact Below.refl _ _ | assumption | (refine below_drewN ?_ _) | (refine Below.drew ?_) | (refine Below.alloc ?_ (by first | omega | (simp; omega) | simp) _) | (refine Below.setCell ?_ (by first | omega | (simp; omega) | simp) _) | (refine below_trans ?_ (by assumption) (by first | omega | (simp; omega) | simp))))
      have kd2 : Below (w3.setCell ⟨g, k, none⟩ (.slice (some ⟨bq, 0, none⟩) m vc)).heap.size (w3.setCell ⟨g, k, none⟩ (.slice (some ⟨bq, 0, none⟩) m vc)) (w3.setCell ⟨g, k, none⟩ (.slice (some ⟨bq, 0, none⟩) m vc)).drew := (by repeat (first | exact Below.refl _ _ | assumption | (refine below_drewN ?_ _) | (refine Below.drew ?_) | (refine Below.alloc ?_ (by first | omega | (simp; omega) | simp) _) | (refine Below.setCell ?_ (by first | omega | (simp; omega) | simp) _) | (refine below_trans ?_ (by assumption) (by first | omega | (simp; omega) | simp))))
      have P8 := (P3.far (p := ⟨g, k, none⟩) (by show g ≠ _; omega) (.slice (some ⟨bq, 0, none⟩) m vc)).later kd2
      have Q8 := (Q3.far (p := ⟨g, k, none⟩) (by show g ≠ _; omega) (.slice (some ⟨bq, 0, none⟩) m vc)).later kd2
      have G8 := HG8.out.later kd2
      have b8 : Below w.heap.size w (w3.setCell ⟨g, k, none⟩ (.slice (some ⟨bq, 0, none⟩) m vc)).drew := (b3.setCell (p := ⟨g, k, none⟩) (by show _ ≤ g; omega) _).drew
      have cq8 : (w3.setCell ⟨g, k, none⟩ (.slice (some ⟨bq, 0, none⟩) m vc)).drew.cell? ⟨bq, m, none⟩ = some (.int .u64 (a : Nat)) := ((bcell kd2).1 _ _ (by rw [World.size_setCell]; exact hbg)).trans ((World.cell?_setCell_other _ _ _ _ (by intro e; injection e with e1; exact hne e1.symm)).trans cq)
      generalize (w3.setCell ⟨g, k, none⟩ (.slice (some ⟨bq, 0, none⟩) m vc)).drew = w8 at *
      clear kd kd2
      obtain ⟨p0, p1⟩ := id P8
      obtain ⟨q0, q1⟩ := id Q8
      go_wp2_with fail
      go_region_held3 (fun X : World => X.cell? ⟨w.heap.size, 0, none⟩ = some (.slice (some ⟨g, 0, none⟩) n c2) ∧ X.cell? ⟨bq, m, none⟩ = some (.int .u64 (a : Nat)))
        ((refine ⟨?_, ?_⟩ <;> first | assumption | exact p0 | exact cq8 | exact (World.cell?_setCell_other _ _ _ _ (by intro e; injection e with e1; omega)).trans (by first | assumption | exact p0 | exact cq8)))
        (fail)
      all_goals
        have kd3 : Below (w8.setCell ⟨w.heap.size + 1, 0, none⟩ (.slice (some ⟨g, 0, none⟩) n c2)).heap.size (w8.setCell ⟨w.heap.size + 1, 0, none⟩ (.slice (some ⟨g, 0, none⟩) n c2)) (w8.setCell ⟨w.heap.size + 1, 0, none⟩ (.slice (some ⟨g, 0, none⟩) n c2)).drew := (by repeat (first | exact Below.refl _ _ | assumption | (refine below_drewN ?_ _) | (refine Below.drew ?_) | (refine Below.alloc ?_ (by first | omega | (simp; omega) | simp) _) | (refine Below.setCell ?_ (by first | omega | (simp; omega) | simp) _) | (refine below_trans ?_ (by assumption) (by first | omega | (simp; omega) | simp))))
        have HO := Lib.hid ((G8.far (p := ⟨w.heap.size + 1, 0, none⟩) (by show w.heap.size + 1 < w1.heap.size; omega) (.slice (some ⟨g, 0, none⟩) n c2)).later kd3)
        have q9 := ((Q8.set (.slice (some ⟨g, 0, none⟩) n c2)).later kd3).c
        go_wp2
        exact bodyPost_ret (res_g4 rfl rfl (g := w.heap.size + 1) (v0 := .slice (some ⟨g, 0, none⟩) n c2) q9) rfl ⟨some ⟨g, 0, none⟩, c2, by rw [HRl.out]; rfl, HO.out.mono (by omega), (by repeat (first | exact Below.refl _ _ | assumption | (refine below_drewN ?_ _) | (refine Below.drew ?_) | (refine Below.alloc ?_ (by first | omega | (simp; omega) | simp) _) | (refine Below.setCell ?_ (by first | omega | (simp; omega) | simp) _) | (refine below_trans ?_ (by assumption) (by first | omega | (simp; omega) | simp))))⟩
  · have hr1 := Lib.hid hr1
    have HH1 := Lib.hid h1
    have z0 : (nq qs k).length = 0 := h0
    rw [z0] at c0x
    have o3H := Lib.hid o3
    have hvsL : (qsOf vs).length = n := by rw [qsOf_len]; exact hvl
    clear h0 z0 h1 o3 hvs
    generalize vs[k].A = vA at c0x
    generalize vs[k].c = vc at c0x
    go_wp2_with fail
    generalize (w2.setCell ⟨w.heap.size, 0, none⟩ (.slice (some ⟨g, 0, none⟩) n c2)) = w3 at *
    clear p0 p1 q0 q1 P Q
    go_loopw [9, 54] (fun bb ii wr => ∃ i : Nat, ii = .int .i64 (i : Nat) ∧ i ≤ n ∧ ∃ t : Nat, bb = .int .i64 (t : Nat) ∧ t < n ∧ Hid (longK qs i = t) ∧ GTwin wr w1.heap.size (some ⟨g, 0, none⟩) c2 vs ∧ Bx wr w.heap.size (.slice (some ⟨g, 0, none⟩) n c2) ∧ Bx wr (w.heap.size + 1) (.slice none 0 0) ∧ w3.heap.size ≤ wr.heap.size ∧ Below w.heap.size w wr) (fun _ ii _ => n - (intOf ii).toNat)
    case atStart => exact ⟨0, rfl, Nat.zero_le _, 0, rfl, by omega, Lib.hid rfl, o3H.out, P3, Q3, Nat.le_refl _, b3⟩
    case round =>
      clear P3 Q3 b3 o3H f0x c0x
      obtain ⟨i, rfl, hi, t, rfl, ht, HT2, o4, P4, Q4, hsz, hb_wr⟩ := hrel
      obtain ⟨p0, p1⟩ := id P4
      obtain ⟨q0, q1⟩ := id Q4
      by_cases hlt : i < n
      · have c1 := o4.cell i (by omega)
        have c3 := o4.cell t (by omega)
        have e1 : vs[i].q = nq qs i := by rw [← HVS.out, qsOf_at _ _ (by omega)]
        have e2 : vs[t].q = nq qs t := by rw [← HVS.out, qsOf_at _ _ (by omega)]
        rw [e1] at c1
        rw [e2] at c3
        have HX : Hid (longK qs (i + 1) = if (nq qs t).length < (nq qs i).length then i else t) := Lib.hid (by rw [← HT2.out]; rfl)
        have j1 : (i : Int) < (n : Int) := by omega
        have j2 : (0 : Int) ≤ (i : Int) := by omega
        have j3 : (t : Int) < (n : Int) := by omega
        have j4 : (0 : Int) ≤ (t : Int) := by omega
        clear e1 e2
        generalize vs[i].A = uA at c1
        generalize vs[i].c = uc at c1
        generalize vs[t].A = tA at c3
        generalize vs[t].c = tc at c3
        generalize (nq qs i).length = li at *
        generalize (nq qs t).length = lt at *
        have o4H := Lib.hid o4
        have P4H := Lib.hid P4
        have Q4H := Lib.hid Q4
        clear o4 P4 Q4
        by_cases hc : lt < li
        · have d1 : decide ((lt : Int) < (li : Int)) = true := by simp; omega
          have d2 : decide (lt < li) = true := by simpa using hc
          have HX2 : Hid (longK qs (i + 1) = i) := Lib.hid (by rw [HX.out, if_pos hc])
          go_wp2_with fail
          go_quiet (fail)
          go_wp2
          go_roundw
          case rel => exact ⟨i + 1, by go_num, by omega, i, rfl, by omega, HX2, o4H.out.later (by repeat (first | exact Below.refl _ _ | assumption | (refine below_drewN ?_ _) | (refine Below.drew ?_) | (refine Below.alloc ?_ (by first | omega | (simp; omega) | simp) _) | (refine Below.setCell ?_ (by first | omega | (simp; omega) | simp) _) | (refine below_trans ?_ (by assumption) (by first | omega | (simp; omega) | simp)))), P4H.out.later (by repeat (first | exact Below.refl _ _ | assumption | (refine below_drewN ?_ _) | (refine Below.drew ?_) | (refine Below.alloc ?_ (by first | omega | (simp; omega) | simp) _) | (refine Below.setCell ?_ (by first | omega | (simp; omega) | simp) _) | (refine below_trans ?_ (by assumption) (by first | omega | (simp; omega) | simp)))), Q4H.out.later (by repeat (first | exact Below.refl _ _ | assumption | (refine below_drewN ?_ _) | (refine Below.drew ?_) | (refine Below.alloc ?_ (by first | omega | (simp; omega) | simp) _) | (refine Below.setCell ?_ (by first | omega | (simp; omega) | simp) _) | (refine below_trans ?_ (by assumption) (by first | omega | (simp; omega) | simp)))), by first | (rw [World.heap_drewN]; exact hsz) | exact hsz, (by repeat (first | exact Below.refl _ _ | assumption | (refine below_drewN ?_ _) | (refine Below.drew ?_) | (refine Below.alloc ?_ (by first | omega | (simp; omega) | simp) _) | (refine Below.setCell ?_ (by first | omega | (simp; omega) | simp) _) | (refine below_trans ?_ (by assumption) (by first | omega | (simp; omega) | simp))))⟩
          case measure => simp [intOf]; omega
        · have d1 : decide ((lt : Int) < (li : Int)) = false := by simp; omega
          have d2 : decide (lt < li) = false := by simp; omega
          have HX2 : Hid (longK qs (i + 1) = t) := Lib.hid (by rw [HX.out, if_neg hc])
          go_wp2_with fail
          go_quiet (fail)
          go_wp2
          go_roundw
          case rel => exact ⟨i + 1, by go_num, by omega, t, rfl, by omega, HX2, o4H.out.later (by repeat (first | exact Below.refl _ _ | assumption | (refine below_drewN ?_ _) | (refine Below.drew ?_) | (refine Below.alloc ?_ (by first | omega | (simp; omega) | simp) _) | (refine Below.setCell ?_ (by first | omega | (simp; omega) | simp) _) | (refine below_trans ?_ (by assumption) (by first | omega | (simp; omega) | simp)))), P4H.out.later (by repeat (first | exact Below.refl _ _ | assumption | (refine below_drewN ?_ _) | (refine Below.drew ?_) | (refine Below.alloc ?_ (by first | omega | (simp; omega) | simp) _) | (refine Below.setCell ?_ (by first | omega | (simp; omega) | simp) _) | (refine below_trans ?_ (by assumption) (by first | omega | (simp; omega) | simp)))), Q4H.out.later (by repeat (first | exact Below.refl _ _ | assumption | (refine below_drewN ?_ _) | (refine Below.drew ?_) | (refine Below.alloc ?_ (by first | omega | (simp; omega) | simp) _) | (refine Below.setCell ?_ (by first | omega | (simp; omega) | simp) _) | (refine below_trans ?_ (by assumption) (by first | omega | (simp; omega) | simp)))), by first | (rw [World.heap_drewN]; exact hsz) | exact hsz, (by repeat (first | exact Below.refl _ _ | assumption | (refine below_drewN ?_ _) | (refine Below.drew ?_) | (refine Below.alloc ?_ (by first | omega | (simp; omega) | simp) _) | (refine Below.setCell ?_ (by first | omega | (simp; omega) | simp) _) | (refine below_trans ?_ (by assumption) (by first | omega | (simp; omega) | simp))))⟩
          case measure => simp [intOf]; omega
      · obtain rfl : i = n := by omega
        have em : lng qs = t := by rw [← HT2.out, ← hn.out]; rfl
        have hrx := hr1.out
        have hh1 := HH1.out
        rw [em] at hh1
        have hkt0 : t < vs.length := by omega
        have c1 := o4.cell t hkt0
        have e1 : (vs[t]'hkt0).q = nq qs t := by rw [← qsOf_at vs t hkt0, HVS.out]
        have j3 : (t : Int) < (i : Int) := by omega
        have j4 : (0 : Int) ≤ (t : Int) := by omega
        rw [e1, hh1] at c1
        have HRl : Hid (r.length = i) := Lib.hid (by rw [hrx]; exact hn.out)
        have HO := Lib.hid ((o4.far (p := ⟨w.heap.size + 1, 0, none⟩) (by show w.heap.size + 1 < w1.heap.size; omega) (.slice (some ⟨g, 0, none⟩) i c2)).own (by rw [HVS.out]; exact HLIM.out))
        rw [HVS.out, ← hrx] at HO
        clear o4 e1 hh1 hrx
        generalize vs[t].A = uA at *
        generalize vs[t].c = uc at *
        go_wp2
        exact bodyPost_ret (res_g4 rfl rfl (g := w.heap.size + 1) (v0 := .slice (some ⟨g, 0, none⟩) i c2) (by first | exact World.cell?_setCell_same _ _ _ q0 | exact World.cell?_setCell_same _ _ _ (by first | exact q0 | (exact (World.cell?_alloc_lt _ _ ⟨_, _, _⟩ (by first | omega | (simp; omega) | simp)).trans q0) | (exact (World.cell?_alloc_lt _ _ ⟨_, _, _⟩ (by first | omega | (simp; omega) | simp)).trans ((World.cell?_alloc_lt _ _ ⟨_, _, _⟩ (by first | omega | (simp; omega) | simp)).trans q0)) | (simp [go_sem, q0]; done)) | exact (World.cell?_alloc_lt _ _ ⟨_, _, _⟩ (by first | omega | (simp; omega) | simp)).trans (World.cell?_setCell_same _ _ _ q0) | (simp [go_sem, q0]; done))) rfl ⟨some ⟨g, 0, none⟩, c2, by rw [HRl.out]; rfl, HO.out.mono (by omega), (by repeat (first | exact Below.refl _ _ | assumption | (refine below_drewN ?_ _) | (refine Below.drew ?_) | (refine Below.alloc ?_ (by first | omega | (simp; omega) | simp) _) | (refine Below.setCell ?_ (by first | omega | (simp; omega) | simp) _) | (refine below_trans ?_ (by assumption) (by first | omega | (simp; omega) | simp))))⟩
  · have hr1 := Lib.hid hr1
    have HH1 := Lib.hid h1
    have HA := Lib.hid ha
    clear ha
    have z0 : (nq qs k).length = 0 := h0
    rw [z0] at c0x
    have o3H := Lib.hid o3
    have hvsL : (qsOf vs).length = n := by rw [qsOf_len]; exact hvl
    clear h0 z0 h1 o3 hvs
    generalize vs[k].A = vA at c0x
    generalize vs[k].c = vc at c0x
    go_wp2_with fail
    generalize (w2.setCell ⟨w.heap.size, 0, none⟩ (.slice (some ⟨g, 0, none⟩) n c2)) = w3 at *
    clear p0 p1 q0 q1 P Q
    go_loopw [9, 54] (fun bb ii wr => ∃ i : Nat, ii = .int .i64 (i : Nat) ∧ i ≤ n ∧ ∃ t : Nat, bb = .int .i64 (t : Nat) ∧ t < n ∧ Hid (longK qs i = t) ∧ GTwin wr w1.heap.size (some ⟨g, 0, none⟩) c2 vs ∧ Bx wr w.heap.size (.slice (some ⟨g, 0, none⟩) n c2) ∧ Bx wr (w.heap.size + 1) (.slice none 0 0) ∧ w3.heap.size ≤ wr.heap.size ∧ Below w.heap.size w wr) (fun _ ii _ => n - (intOf ii).toNat)
    case atStart => exact ⟨0, rfl, Nat.zero_le _, 0, rfl, by omega, Lib.hid rfl, o3H.out, P3, Q3, Nat.le_refl _, b3⟩
    case round =>
      clear P3 Q3 b3 o3H f0x c0x
      obtain ⟨i, rfl, hi, t, rfl, ht, HT2, o4, P4, Q4, hsz, hb_wr⟩ := hrel
      obtain ⟨p0, p1⟩ := id P4
      obtain ⟨q0, q1⟩ := id Q4
      by_cases hlt : i < n
      · have c1 := o4.cell i (by omega)
        have c3 := o4.cell t (by omega)
        have e1 : vs[i].q = nq qs i := by rw [← HVS.out, qsOf_at _ _ (by omega)]
        have e2 : vs[t].q = nq qs t := by rw [← HVS.out, qsOf_at _ _ (by omega)]
        rw [e1] at c1
        rw [e2] at c3
        have HX : Hid (longK qs (i + 1) = if (nq qs t).length < (nq qs i).length then i else t) := Lib.hid (by rw [← HT2.out]; rfl)
        have j1 : (i : Int) < (n : Int) := by omega
        have j2 : (0 : Int) ≤ (i : Int) := by omega
        have j3 : (t : Int) < (n : Int) := by omega
        have j4 : (0 : Int) ≤ (t : Int) := by omega
        clear e1 e2
        generalize vs[i].A = uA at c1
        generalize vs[i].c = uc at c1
        generalize vs[t].A = tA at c3
        generalize vs[t].c = tc at c3
        generalize (nq qs i).length = li at *
        generalize (nq qs t).length = lt at *
        have o4H := Lib.hid o4
        have P4H := Lib.hid P4
        have Q4H := Lib.hid Q4
        clear o4 P4 Q4
        by_cases hc : lt < li
        · have d1 : decide ((lt : Int) < (li : Int)) = true := by simp; omega
          have d2 : decide (lt < li) = true := by simpa using hc
          have HX2 : Hid (longK qs (i + 1) = i) := Lib.hid (by rw [HX.out, if_pos hc])
          go_wp2_with fail
          go_quiet (fail)
          go_wp2
          go_roundw
          case rel => exact ⟨i + 1, by go_num, by omega, i, rfl, by omega, HX2, o4H.out.later (by repeat (first | exact Below.refl _ _ | assumption | (refine below_drewN ?_ _) | (refine Below.drew ?_) | (refine Below.alloc ?_ (by first | omega | (simp; omega) | simp) _) | (refine Below.setCell ?_ (by first | omega | (simp; omega) | simp) _) | (refine below_trans ?_ (by assumption) (by first | omega | (simp; omega) | simp)))), P4H.out.later (by repeat (first | exact Below.refl _ _ | assumption | (refine below_drewN ?_ _) | (refine Below.drew ?_) | (refine Below.alloc ?_ (by first | omega | (simp; omega) | simp) _) | (refine Below.setCell ?_ (by first | omega | (simp; omega) | simp) _) | (refine below_trans ?_ (by assumption) (by first | omega | (simp; omega) | simp)))), Q4H.out.later (by repeat (first | exact Below.refl _ _ | assumption | (refine below_drewN ?_ _) | (refine Below.drew ?_) | (refine Below.alloc ?_ (by first | omega | (simp; omega) | simp) _) | (refine Below.setCell ?_ (by first | omega | (simp; omega) | simp) _) | (refine below_trans ?_ (by assumption) (by first | omega | (simp; omega) | simp)))), by first | (rw [World.heap_drewN]; exact hsz) | exact hsz, (by repeat (first | exact Below.refl _ _ | assumption | (refine below_drewN ?_ _) | (refine Below.drew ?_) | (refine Below.alloc ?_ (by first | omega | (simp; omega) | simp) _) | (refine Below.setCell ?_ (by first | omega | (simp; omega) | simp) _) | (refine below_trans ?_ (by assumption) (by first | omega | (simp; omega) | simp))))⟩
          case measure => simp [intOf]; omega
        · have d1 : decide ((lt : Int) < (li : Int)) = false := by simp; omega
          have d2 : decide (lt < li) = false := by simp; omega
          have HX2 : Hid (longK qs (i + 1) = t) := Lib.hid (by rw [HX.out, if_neg hc])
          go_wp2_with fail
          go_quiet (fail)
          go_wp2
          go_roundw
          case rel => exact ⟨i + 1, by go_num, by omega, t, rfl, by omega, HX2, o4H.out.later (by repeat (first | exact Below.refl _ _ | assumption | (refine below_drewN ?_ _) | (refine Below.drew ?_) | (refine Below.alloc ?_ (by first | omega | (simp; omega) | simp) _) | (refine Below.setCell ?_ (by first | omega | (simp; omega) | simp) _) | (refine below_trans ?_ (by assumption) (by first | omega | (simp; omega) | simp)))), P4H.out.later (by repeat (first | exact Below.refl _ _ | assumption | (refine below_drewN ?_ _) | (refine Below.drew ?_) | (refine Below.alloc ?_ (by first | omega | (simp; omega) | simp) _) | (refine Below.setCell ?_ (by first | omega | (simp; omega) | simp) _) | (refine below_trans ?_ (by assumption) (by first | omega | (simp; omega) | simp)))), Q4H.out.later (by repeat (first | exact Below.refl _ _ | assumption | (refine below_drewN ?_ _) | (refine Below.drew ?_) | (refine Below.alloc ?_ (by first | omega | (simp; omega) | simp) _) | (refine Below.setCell ?_ (by first | omega | (simp; omega) | simp) _) | (refine below_trans ?_ (by assumption) (by first | omega | (simp; omega) | simp)))), by first | (rw [World.heap_drewN]; exact hsz) | exact hsz, (by repeat (first | exact Below.refl _ _ | assumption | (refine below_drewN ?_ _) | (refine Below.drew ?_) | (refine Below.alloc ?_ (by first | omega | (simp; omega) | simp) _) | (refine Below.setCell ?_ (by first | omega | (simp; omega) | simp) _) | (refine below_trans ?_ (by assumption) (by first | omega | (simp; omega) | simp))))⟩
          case measure => simp [intOf]; omega
      · obtain rfl : i = n := by omega
        have em : lng qs = t := by rw [← HT2.out, ← hn.out]; rfl
        have hrx := hr1.out
        have hh1 := HH1.out
        rw [em] at hh1
        have hkt0 : t < vs.length := by omega
        have c1 := o4.cell t hkt0
        have e1 : (vs[t]'hkt0).q = nq qs t := by rw [← qsOf_at vs t hkt0, HVS.out]
        have j3 : (t : Int) < (i : Int) := by omega
        have j4 : (0 : Int) ≤ (t : Int) := by omega
        have hax := HA.out
        rw [em] at hax hrx
        have hkt : t < vs.length := by omega
        have hro := o4.rows t hkt
        have hof := o4.off t hkt g rfl
        have f0 := o4.hd.frozenAt t
        have hlm := HLIM.out.each t
        rw [e1] at hro c1
        obtain ⟨q, HQ⟩ : ∃ q, Hid (nq qs t = q) := ⟨_, rfl⟩
        rw [HQ.out] at hro c1 hh1 hrx hax hlm
        obtain ⟨m, hm⟩ : ∃ m : Nat, q.length = m + 1 := ⟨q.length - 1, by omega⟩
        obtain ⟨bq, eA, hbB, hbg, hcq⟩ := hro.own.at_ hh1
        have hcap := hro.cap_
        have cq := (hcq 0 (by omega)).1
        have hqr := QOwn.of_owns hro
        rw [← hax] at cq
        have hne : bq ≠ g := fun e => hof (by rw [eA, e])
        have HRl : Hid (r.length = i) := Lib.hid (by rw [hrx, List.length_set]; exact hn.out)
        rw [eA] at hqr
        rw [eA, hm] at c1
        rw [hm] at hcap
        obtain ⟨u, hu⟩ : ∃ u, vs[t].c = u + 1 := ⟨vs[t].c - 1, by omega⟩
        rw [hu] at c1 hcap
        have nb1 : bq ≠ w.heap.size := by omega
        have nb2 : bq ≠ w.heap.size + 1 := by omega
        have d1 : (((m : Int) + 1) == 0) = false := beq_eq_false_iff_ne.2 (by omega)
        have d2 : ¬ ((m : Int) + 1 = 0) := by omega
        have i5 : (1 : Int) ≤ (m : Int) + 1 := by omega
        have i4 : (0 : Int) ≤ (m : Int) := by omega
        have i6 : (0 : Int) < (m : Int) + 1 := by omega
        have ha1 : (⟨bq, 0, none⟩ : Addr).add 1 = ⟨bq, 1, none⟩ := by simp [Addr.add]
        have hg3 : g < wr.heap.size := by omega
        by_cases hu0 : u = 0
        · have hm0 : m = 0 := by omega
          have hnil : q.drop 1 = [] := List.eq_nil_of_length_eq_zero (by rw [List.length_drop]; omega)
          have HG8 := Lib.hid (gown_cut2 (m := 0) (cc := 0) (q := q.drop 1) (A2 := some ⟨bq, 0, none⟩) o4 (by rw [HVS.out]; exact HLIM.out) hB hg3 hkt (by rw [hnil]; rfl) (by rw [hnil]; exact QOwn.nil _ _ _) (fun o e => by injection e with e; injection e with e; exact hne e) (fun e => by cases e) (Nat.le_refl _) (by omega))
          rw [HVS.out, ← hrx] at HG8
          clear hm hu hlm e1 hh1 hnil
          subst hu0 hm0
          clear o4 hro hof hcq hqr hax hrx
          go_wp2_with fail
          go_region_held3 (fun X : World => X.cell? ⟨w.heap.size, 0, none⟩ = some (.slice (some ⟨g, 0, none⟩) i c2))
            ((first | assumption | exact p0 | exact (World.cell?_setCell_other _ _ _ _ (by intro e; injection e with e1; exact ng e1.symm)).trans (by assumption) | exact (World.cell?_setCell_other _ _ _ _ (by intro e; injection e with e1; exact ng e1)).trans (by assumption)))
            (fail)
          all_goals
            have kd2 : Below (wr.setCell ⟨g, t, none⟩ (.slice (some ⟨bq, 0, none⟩) 0 0)).heap.size (wr.setCell ⟨g, t, none⟩ (.slice (some ⟨bq, 0, none⟩) 0 0)) (wr.setCell ⟨g, t, none⟩ (.slice (some ⟨bq, 0, none⟩) 0 0)).drew := (by repeat (first | exact Below.refl _ _ | assumption | (refine below_drewN ?_ _) | (refine Below.drew ?_) | (refine Below.alloc ?_ (by first | omega | (simp; omega) | simp) _) | (refine Below.setCell ?_ (by first | omega | (simp; omega) | simp) _) | (refine below_trans ?_ (by assumption) (by first | omega | (simp; omega) | simp))))
            have P8 := (P4.far (p := ⟨g, t, none⟩) (by show g ≠ _; omega) (.slice (some ⟨bq, 0, none⟩) 0 0)).later kd2
            have Q8 := (Q4.far (p := ⟨g, t, none⟩) (by show g ≠ _; omega) (.slice (some ⟨bq, 0, none⟩) 0 0)).later kd2
            have G8 := HG8.out.later kd2
            have b8 : Below w.heap.size w (wr.setCell ⟨g, t, none⟩ (.slice (some ⟨bq, 0, none⟩) 0 0)).drew := (hb_wr.setCell (p := ⟨g, t, none⟩) (by show _ ≤ g; omega) _).drew
            have cq8 : (wr.setCell ⟨g, t, none⟩ (.slice (some ⟨bq, 0, none⟩) 0 0)).drew.cell? ⟨bq, 0, none⟩ = some (.int .u64 (a : Nat)) := ((bcell kd2).1 _ _ (by rw [World.size_setCell]; exact hbg)).trans ((World.cell?_setCell_other _ _ _ _ (by intro e; injection e with e1; exact hne e1.symm)).trans cq)
            generalize (wr.setCell ⟨g, t, none⟩ (.slice (some ⟨bq, 0, none⟩) 0 0)).drew = w8 at *
            clear kd2
            obtain ⟨p0, p1⟩ := id P8
            obtain ⟨q0, q1⟩ := id Q8
            go_wp2_with fail
            go_region_held3 (fun X : World => X.cell? ⟨w.heap.size, 0, none⟩ = some (.slice (some ⟨g, 0, none⟩) i c2) ∧ X.cell? ⟨bq, 0, none⟩ = some (.int .u64 (a : Nat)))
              ((refine ⟨?_, ?_⟩ <;> first | assumption | exact p0 | exact cq8 | exact (World.cell?_setCell_other _ _ _ _ (by intro e; injection e with e1; omega)).trans (by first | assumption | exact p0 | exact cq8)))
              (fail)
            all_goals
              have kd3 : Below (w8.setCell ⟨w.heap.size + 1, 0, none⟩ (.slice (some ⟨g, 0, none⟩) i c2)).heap.size (w8.setCell ⟨w.heap.size + 1, 0, none⟩ (.slice (some ⟨g, 0, none⟩) i c2)) (w8.setCell ⟨w.heap.size + 1, 0, none⟩ (.slice (some ⟨g, 0, none⟩) i c2)).drew := (by repeat (first | exact Below.refl _ _ | assumption | (refine below_drewN ?_ _) | (refine Below.drew ?_) | (refine Below.alloc ?_ (by first | omega | (simp; omega) | simp) _) | (refine Below.setCell ?_ (by first | omega | (simp; omega) | simp) _) | (refine below_trans ?_ (by assumption) (by first | omega | (simp; omega) | simp))))
              have HO := Lib.hid ((G8.far (p := ⟨w.heap.size + 1, 0, none⟩) (by show w.heap.size + 1 < w1.heap.size; omega) (.slice (some ⟨g, 0, none⟩) i c2)).later kd3)
              have q9 := ((Q8.set (.slice (some ⟨g, 0, none⟩) i c2)).later kd3).c
              go_wp2
              exact bodyPost_ret (res_g4 rfl rfl (g := w.heap.size + 1) (v0 := .slice (some ⟨g, 0, none⟩) i c2) q9) rfl ⟨some ⟨g, 0, none⟩, c2, by rw [HRl.out]; rfl, HO.out.mono (by omega), (by repeat (first | exact Below.refl _ _ | assumption | (refine below_drewN ?_ _) | (refine Below.drew ?_) | (refine Below.alloc ?_ (by first | omega | (simp; omega) | simp) _) | (refine Below.setCell ?_ (by first | omega | (simp; omega) | simp) _) | (refine below_trans ?_ (by assumption) (by first | omega | (simp; omega) | simp))))⟩
        · have HG8 := Lib.hid (gown_cut2 (m := m) (cc := u) (q := q.drop 1) (A2 := some ⟨bq, 1, none⟩) o4 (by rw [HVS.out]; exact HLIM.out) hB hg3 hkt (by rw [List.length_drop]; omega) hqr.drop1 (fun o e => by injection e with e; injection e with e; exact hne e) (fun e => by cases e) (by omega) (by omega))
          rw [HVS.out, ← hrx] at HG8
          have hu1 : ¬ (u + 1 = 1) := by omega
          clear hm hu hlm e1 hh1
          clear o4 hro hof hcq hqr hax hrx
          go_wp2_with fail
          go_region_held3 (fun X : World => X.cell? ⟨w.heap.size, 0, none⟩ = some (.slice (some ⟨g, 0, none⟩) i c2))
            ((first | assumption | exact p0 | exact (World.cell?_setCell_other _ _ _ _ (by intro e; injection e with e1; exact ng e1.symm)).trans (by assumption) | exact (World.cell?_setCell_other _ _ _ _ (by intro e; injection e with e1; exact ng e1)).trans (by assumption)))
            (fail)
          all_goals
            have kd2 : Below (wr.setCell ⟨g, t, none⟩ (.slice (some ⟨bq, 1, none⟩) m u)).heap.size (wr.setCell ⟨g, t, none⟩ (.slice (some ⟨bq, 1, none⟩) m u)) (wr.setCell ⟨g, t, none⟩ (.slice (some ⟨bq, 1, none⟩) m u)).drew := (by repeat (first | exact Below.refl _ _ | assumption | (refine below_drewN ?_ _) | (refine Below.drew ?_) | (refine Below.alloc ?_ (by first | omega | (simp; omega) | simp) _) | (refine Below.setCell ?_ (by first | omega | (simp; omega) | simp) _) | (refine below_trans ?_ (by assumption) (by first | omega | (simp; omega) | simp))))
            have P8 := (P4.far (p := ⟨g, t, none⟩) (by show g ≠ _; omega) (.slice (some ⟨bq, 1, none⟩) m u)).later kd2
            have Q8 := (Q4.far (p := ⟨g, t, none⟩) (by show g ≠ _; omega) (.slice (some ⟨bq, 1, none⟩) m u)).later kd2
            have G8 := HG8.out.later kd2
            have b8 : Below w.heap.size w (wr.setCell ⟨g, t, none⟩ (.slice (some ⟨bq, 1, none⟩) m u)).drew := (hb_wr.setCell (p := ⟨g, t, none⟩) (by show _ ≤ g; omega) _).drew
            have cq8 : (wr.setCell ⟨g, t, none⟩ (.slice (some ⟨bq, 1, none⟩) m u)).drew.cell? ⟨bq, 0, none⟩ = some (.int .u64 (a : Nat)) := ((bcell kd2).1 _ _ (by rw [World.size_setCell]; exact hbg)).trans ((World.cell?_setCell_other _ _ _ _ (by intro e; injection e with e1; exact hne e1.symm)).trans cq)
            generalize (wr.setCell ⟨g, t, none⟩ (.slice (some ⟨bq, 1, none⟩) m u)).drew = w8 at *
            clear kd2
            obtain ⟨p0, p1⟩ := id P8
            obtain ⟨q0, q1⟩ := id Q8
            go_wp2_with fail
            go_region_held3 (fun X : World => X.cell? ⟨w.heap.size, 0, none⟩ = some (.slice (some ⟨g, 0, none⟩) i c2) ∧ X.cell? ⟨bq, 0, none⟩ = some (.int .u64 (a : Nat)))
              ((refine ⟨?_, ?_⟩ <;> first | assumption | exact p0 | exact cq8 | exact (World.cell?_setCell_other _ _ _ _ (by intro e; injection e with e1; omega)).trans (by first | assumption | exact p0 | exact cq8)))
              (fail)
            all_goals
              have kd3 : Below (w8.setCell ⟨w.heap.size + 1, 0, none⟩ (.slice (some ⟨g, 0, none⟩) i c2)).heap.size (w8.setCell ⟨w.heap.size + 1, 0, none⟩ (.slice (some ⟨g, 0, none⟩) i c2)) (w8.setCell ⟨w.heap.size + 1, 0, none⟩ (.slice (some ⟨g, 0, none⟩) i c2)).drew := (by repeat (first | exact Below.refl _ _ | assumption | (refine below_drewN ?_ _) | (refine Below.drew ?_) | (refine Below.alloc ?_ (by first | omega | (simp; omega) | simp) _) | (refine Below.setCell ?_ (by first | omega | (simp; omega) | simp) _) | (refine below_trans ?_ (by assumption) (by first | omega | (simp; omega) | simp))))
              have HO := Lib.hid ((G8.far (p := ⟨w.heap.size + 1, 0, none⟩) (by show w.heap.size + 1 < w1.heap.size; omega) (.slice (some ⟨g, 0, none⟩) i c2)).later kd3)
              have q9 := ((Q8.set (.slice (some ⟨g, 0, none⟩) i c2)).later kd3).c
              go_wp2
              exact bodyPost_ret (res_g4 rfl rfl (g := w.heap.size + 1) (v0 := .slice (some ⟨g, 0, none⟩) i c2) q9) rfl ⟨some ⟨g, 0, none⟩, c2, by rw [HRl.out]; rfl, HO.out.mono (by omega), (by repeat (first | exact Below.refl _ _ | assumption | (refine below_drewN ?_ _) | (refine Below.drew ?_) | (refine Below.alloc ?_ (by first | omega | (simp; omega) | simp) _) | (refine Below.setCell ?_ (by first | omega | (simp; omega) | simp) _) | (refine below_trans ?_ (by assumption) (by first | omega | (simp; omega) | simp))))⟩
end
end Go.Proofs.Ytlaladhnidcoiaa
