/- Contracts of grey: longest, takeLast, takeFirst. -/
import Derived.Test.YtlaladhnidcoiaaG5
namespace Go.Proofs.Ytlaladhnidcoiaa
open Go.RowKit
set_option linter.unusedVariables false
set_option linter.unusedSimpArgs false

section
variable {w : World} {A : Option Addr} {qs : List (List Nat)} (cap : Nat)
set_option maxHeartbeats 2000000 in
theorem glong_any (hr : GRow w A qs) (h0 : 1 ≤ qs.length) (hl : qs.length ≤ 4) (m : Nat) (hm : lng qs = m) : Calls Try.prog 29 #[gv A qs.length cap] w fun e w' => e = .returned (.int .i64 (m : Nat)) ∧ Below w.heap.size w w' := by
  unfold gv
  obtain ⟨n, hn⟩ : ∃ n, Hid (qs.length = n) := ⟨_, rfl⟩
  have hn4 : n ≤ 4 := by have := hn.out; omega
  have hn1 : 1 ≤ n := by have := hn.out; omega
  have HM := Lib.hid hm
  have hlim := hr.lim
  rw [hn.out]
  clear hm h0 hl
  go_enter Try.func29, Try.ntmps29
  go_wp2_with fail
  go_loopw [3, 9] (fun aa ii wr => ∃ k : Nat, ii = .int .i64 (k : Nat) ∧ k ≤ n ∧ ∃ a : Nat, aa = .int .i64 (a : Nat) ∧ a < n ∧ Hid (longK qs k = a) ∧ Bx wr w.heap.size (.slice A n cap) ∧ w.heap.size ≤ wr.heap.size ∧ Below w.heap.size w wr) (fun _ ii _ => n - (intOf ii).toNat)
  case atStart => exact ⟨0, rfl, Nat.zero_le _, 0, rfl, by omega, Lib.hid rfl, Bx.new w _ _, by simp, (by repeat (first | exact Below.refl _ _ | assumption | (refine below_drewN ?_ _) | (refine Below.drew ?_) | (refine Below.alloc ?_ (by first | omega | (simp; omega) | simp) _) | (refine Below.setCell ?_ (by first | omega | (simp; omega) | simp) _) | (refine below_trans ?_ (by assumption) (by first | omega | (simp; omega) | simp))))⟩
  case round =>
    obtain ⟨k, rfl, hk, a, rfl, ha, HA, HB, hsz, hb_wr⟩ := hrel
    obtain ⟨b0, b1⟩ := id HB
    by_cases hlt : k < n
    · obtain ⟨b, off, hA, hbb, hc⟩ := (hr.later hb_wr).at_ (by have := hn.out; omega)
      obtain ⟨Ai, ci, c1, _⟩ := hc k (by have := hn.out; omega)
      obtain ⟨Aj, cj, c2, _⟩ := hc a (by have := hn.out; omega)
      have hq := hlim.each k
      have hq2 := hlim.each a
      have HX : Hid (longK qs (k + 1) = if (nq qs a).length < (nq qs k).length then k else a) := Lib.hid (by rw [← HA.out]; rfl)
      subst hA
      clear hc
      have i1 : (k : Int) < (n : Int) := by omega
      have i2 : (0 : Int) ≤ (k : Int) := by omega
      have j1 : (a : Int) < (n : Int) := by omega
      have j2 : (0 : Int) ≤ (a : Int) := by omega
      generalize (nq qs k).length = q at *
      generalize (nq qs a).length = p at *
      by_cases hc : p < q
      · have d1 : decide ((p : Int) < (q : Int)) = true := by simp; omega
        have d2 : p < q := hc
        have HX2 : Hid (longK qs (k + 1) = k) := Lib.hid (by rw [HX.out, if_pos hc])
        clear hc
        go_wp2
        go_roundw
        case rel => exact ⟨k + 1, by go_num, by omega, k, rfl, by omega, HX2, HB, hsz, (by repeat (first | exact Below.refl _ _ | assumption | (refine below_drewN ?_ _) | (refine Below.drew ?_) | (refine Below.alloc ?_ (by first | omega | (simp; omega) | simp) _) | (refine Below.setCell ?_ (by first | omega | (simp; omega) | simp) _) | (refine below_trans ?_ (by assumption) (by first | omega | (simp; omega) | simp))))⟩
        case measure => simp [intOf]; omega
      · have d1 : decide ((p : Int) < (q : Int)) = false := by simp; omega
        have HX2 : Hid (longK qs (k + 1) = a) := Lib.hid (by rw [HX.out, if_neg hc])
        go_wp2
        go_roundw
        case rel => exact ⟨k + 1, by go_num, by omega, a, rfl, by omega, HX2, HB, hsz, (by repeat (first | exact Below.refl _ _ | assumption | (refine below_drewN ?_ _) | (refine Below.drew ?_) | (refine Below.alloc ?_ (by first | omega | (simp; omega) | simp) _) | (refine Below.setCell ?_ (by first | omega | (simp; omega) | simp) _) | (refine below_trans ?_ (by assumption) (by first | omega | (simp; omega) | simp))))⟩
        case measure => simp [intOf]; omega
    · obtain rfl : k = n := by omega
      have e1 : m = a := by
        rw [← HM.out, ← HA.out, ← hn.out]
        rfl
      subst e1
      go_wp2
      go_ret
      exact ⟨rfl, (by repeat (first | exact Below.refl _ _ | assumption | (refine below_drewN ?_ _) | (refine Below.drew ?_) | (refine Below.alloc ?_ (by first | omega | (simp; omega) | simp) _) | (refine Below.setCell ?_ (by first | omega | (simp; omega) | simp) _) | (refine below_trans ?_ (by assumption) (by first | omega | (simp; omega) | simp))))⟩
end
theorem grownBy_set (w : World) (g i : Nat) (u : Value) : w.grownBy (w.setCell ⟨g, i, none⟩ u) (some g) :=
  ⟨by simp [World.setCell], by simp [World.setCell], by simp [World.setCell], by simp, fun j hj hne => Below.heap_setCell _ _ _ _ (fun e => hne (by rw [e]))⟩
theorem grownBy_adrew (w : World) (o : Obj) (row : Option Nat) : w.grownBy (w.alloc o).drew row := by
  have h := World.grownBy_alloc w o row
  have hb : Below w.heap.size w (w.alloc o).drew := (by repeat (first | exact Below.refl _ _ | assumption | (refine below_drewN ?_ _) | (refine Below.drew ?_) | (refine Below.alloc ?_ (by first | omega | (simp; omega) | simp) _) | (refine Below.setCell ?_ (by first | omega | (simp; omega) | simp) _) | (refine below_trans ?_ (by assumption) (by first | omega | (simp; omega) | simp))))
  exact ⟨hb.os, hb.tape, hb.output, hb.size, fun i hi _ => hb.block i hi⟩
/-- queues of which one is cut -/
theorem gown_cut {w : World} {B c g k m : Nat} {vs : List Qv} {q : List Nat} {A2 : Option Addr} (h : GTwin w B (some ⟨g, 0, none⟩) c vs) (hl : QLim (qsOf vs)) (hB : B ≤ g) (hg : g < w.heap.size) (hk : k < vs.length) (hm : q.length = m) (hq : QOwn w B A2 q) (hqg : ∀ o, A2 ≠ some ⟨g, o, none⟩) (hn : A2 = none → m = 0) (hle : m ≤ 17592186044416) :
    GOwn (w.setCell ⟨g, k, none⟩ (.slice A2 m m)) B (some ⟨g, 0, none⟩) ((qsOf vs).set k q) :=
  ⟨⟨by rw [List.length_set]; exact hl.many, fun i => by
      rw [nq_set _ _ _ _ (by rw [qsOf_len]; exact hk)]
      split
      · omega
      · exact hl.each i⟩, fun h0 => by
    refine ⟨g, rfl, hB, by simpa using hg, fun i hi => ?_⟩
    rw [List.length_set, qsOf_len] at hi
    rw [nq_set _ _ _ _ (by rw [qsOf_len]; exact hk)]
    by_cases e : i = k
    · subst e
      rw [if_pos rfl]
      exact ⟨A2, m, by rw [hm]; exact World.cell?_setCell_same _ _ _ (h.cell i hi), hq.set hqg _, hqg, by omega, hn⟩
    · rw [if_neg e]
      have hr := h.rows i hi
      have hne : ∀ o, vs[i].A ≠ some ⟨g, o, none⟩ := fun o e2 => by
        rcases hr.adr with h1 | ⟨g', h1, _⟩
        · rw [h1] at e2; cases e2
        · rw [h1] at e2
          injection e2 with e2
          injection e2 with e3 e4
          subst e3
          exact h.off i hi g' rfl h1
      refine ⟨vs[i].A, vs[i].c, ?_, by rw [qsOf_at vs i hi]; exact (QOwn.of_owns hr).set hne _, hne, by rw [qsOf_at vs i hi]; exact hr.cap_, hr.nil_⟩
      rw [World.cell?_setCell_other _ _ _ _ (by intro e2; injection e2 with _ e2; exact e e2.symm), qsOf_at vs i hi]
      exact h.cell i hi⟩
theorem owns_not {w : World} {B n cap g : Nat} {A : Option Addr} {q : List Nat} (h : OwnsN w B A n cap q) (hn : A ≠ some ⟨g, 0, none⟩) (o : Nat) : A ≠ some ⟨g, o, none⟩ := fun e => by
  rcases h.adr with h1 | ⟨g', h1, _⟩
  · rw [h1] at e; cases e
  · rw [h1] at e
    injection e with e
    injection e with e1 e2
    subst e1
    exact hn h1
section
variable {w : World} {B c g k n : Nat} {vs : List Qv}
set_option maxHeartbeats 2000000 in
theorem glast_any (h : GTwin w B (some ⟨g, 0, none⟩) c vs) (hl : QLim (qsOf vs)) (hB : B ≤ g) (hg : g < w.heap.size) (hn : vs.length = n) (hn4 : n ≤ 4) (hk : k < n) (q : List Nat) (hq : nq (qsOf vs) k = q) (h0 : 0 < q.length) (x : Nat) (hx : q.getD (q.length - 1) 0 = x) :
    Calls Try.prog 28 #[gv (some ⟨g, 0, none⟩) n c, .int .i64 (k : Nat)] w fun e w' => e = .returned (.int .u64 (x : Nat)) ∧ GOwn w' B (some ⟨g, 0, none⟩) ((qsOf vs).set k (q.take (q.length - 1))) ∧ w.grownBy w' (some g) := by
  unfold gv
  have hkl : k < vs.length := by omega
  have hc := h.cell k hkl
  have hro := h.rows k hkl
  have hof := h.off k hkl g rfl
  rw [qsOf_at vs k hkl] at hq
  have hlm := hl.each k
  rw [qsOf_at vs k hkl] at hlm
  rw [hq] at hc hlm hro
  have f0 := h.hd.frozenAt k
  obtain ⟨m, hm⟩ : ∃ m : Nat, q.length = m + 1 := ⟨q.length - 1, by omega⟩
  obtain ⟨bq, eA, hbB, hbg, hcq⟩ := hro.own.at_ h0
  have hcap := hro.cap_
  have c2 := (hcq m (by omega)).1
  rw [eA] at hc
  rw [hm] at hc hcap
  have hne : bq ≠ g := fun e => hof (by rw [eA, e])
  have hx2 : q.getD m 0 = x := by rw [← hx, hm]; rfl
  rw [hx2] at c2
  have e1 : IntKind.i64.wrap (((m + 1 : Nat) : Int) - 1) = (m : Int) := by rw [IntWalk.i64_in _ (by omega)]; omega
  have e2 : ((m + 1 : Nat) : Int) - 1 = (m : Int) := by omega
  have e3 : IntKind.i64.wrap (m : Int) = (m : Int) := by rw [IntWalk.i64_in _ (by omega)]
  have i1 : (k : Int) < (n : Int) := by omega
  have i2 : (0 : Int) ≤ (k : Int) := by omega
  have i3 : (m : Int) ≤ (vs[k].c : Int) := by omega
  have i4 : (0 : Int) ≤ (m : Int) := by omega
  have HF := Lib.hid ((gown_cut (m := m) (q := q.take (q.length - 1)) (A2 := some ⟨bq, 0, none⟩) h hl hB hg hkl (by rw [List.length_take]; omega) (by rw [← eA]; exact (QOwn.of_owns hro).take _) (fun o e => by injection e with e; injection e with e; exact hne e) (fun e => by cases e) (by omega)).later ((by repeat (first | exact Below.refl _ _ | assumption | (refine below_drewN ?_ _) | (refine Below.drew ?_) | (refine Below.alloc ?_ (by first | omega | (simp; omega) | simp) _) | (refine Below.setCell ?_ (by first | omega | (simp; omega) | simp) _) | (refine below_trans ?_ (by assumption) (by first | omega | (simp; omega) | simp)))) : Below _ _ ((w.setCell ⟨g, k, none⟩ (.slice (some ⟨bq, 0, none⟩) m m)).alloc (.cells #[.slice (some ⟨g, 0, none⟩) n c] 24)).drew))
  have HG : Hid (w.grownBy ((w.setCell ⟨g, k, none⟩ (.slice (some ⟨bq, 0, none⟩) m m)).alloc (.cells #[.slice (some ⟨g, 0, none⟩) n c] 24)).drew (some g)) := Lib.hid ((grownBy_set w g k _).trans (grownBy_adrew _ _ _))
  have ng : g ≠ w.heap.size := by omega
  have ng2 : bq ≠ w.heap.size := by omega
  clear hro hq hx hx2 hlm hcq h hl hof
  generalize vs[k].c = cc at *
  have ha0 : (⟨bq, 0, none⟩ : Addr).add 0 = ⟨bq, 0, none⟩ := by simp [Addr.add]
  by_cases hm0 : m = 0
  · subst hm0
    go_enter Try.func28, Try.ntmps28
    go_wp2_with fail
    go_region_held3 (fun X : World => X.cell? ⟨w.heap.size, 0, none⟩ = some (.slice (some ⟨g, 0, none⟩) n c))
      ((first | assumption | (simp [go_sem]; done) | exact (World.cell?_setCell_other _ _ _ _ (by intro e; injection e with e1; exact ng e1.symm)).trans (by first | assumption | (simp [go_sem]; done)) | exact (World.cell?_setCell_other _ _ _ _ (by intro e; injection e with e1; exact ng e1)).trans (by first | assumption | (simp [go_sem]; done))))
      (fail)
    all_goals
      go_wp2
      go_ret
      exact ⟨rfl, HF.out, HG.out⟩
  · go_enter Try.func28, Try.ntmps28
    go_wp2_with fail
    go_region_held3 (fun X : World => X.cell? ⟨w.heap.size, 0, none⟩ = some (.slice (some ⟨g, 0, none⟩) n c))
      ((first | assumption | (simp [go_sem]; done) | exact (World.cell?_setCell_other _ _ _ _ (by intro e; injection e with e1; exact ng e1.symm)).trans (by first | assumption | (simp [go_sem]; done)) | exact (World.cell?_setCell_other _ _ _ _ (by intro e; injection e with e1; exact ng e1)).trans (by first | assumption | (simp [go_sem]; done))))
      (fail)
    all_goals
      go_wp2
      go_ret
      exact ⟨rfl, HF.out, HG.out⟩
set_option maxHeartbeats 2000000 in
theorem gfirst_any (h : GTwin w B (some ⟨g, 0, none⟩) c vs) (hl : QLim (qsOf vs)) (hB : B ≤ g) (hg : g < w.heap.size) (hn : vs.length = n) (hn4 : n ≤ 4) (hk : k < n) (q : List Nat) (hq : nq (qsOf vs) k = q) (h0 : 0 < q.length) (x : Nat) (hx : q.getD 0 0 = x) :
    Calls Try.prog 30 #[gv (some ⟨g, 0, none⟩) n c, .int .i64 (k : Nat)] w fun e w' => e = .returned (.int .u64 (x : Nat)) ∧ GOwn w' B (some ⟨g, 0, none⟩) ((qsOf vs).set k (q.drop 1)) ∧ w.grownBy w' (some g) := by
  unfold gv
  have hkl : k < vs.length := by omega
  have hc := h.cell k hkl
  have hro := h.rows k hkl
  have hof := h.off k hkl g rfl
  rw [qsOf_at vs k hkl] at hq
  have hlm := hl.each k
  rw [qsOf_at vs k hkl] at hlm
  rw [hq] at hc hlm hro
  have f0 := h.hd.frozenAt k
  obtain ⟨m, hm⟩ : ∃ m : Nat, q.length = m + 1 := ⟨q.length - 1, by omega⟩
  obtain ⟨bq, eA, hbB, hbg, hcq⟩ := hro.own.at_ h0
  have hcap := hro.cap_
  have c2 := (hcq 0 (by omega)).1
  rw [eA] at hc
  rw [hm] at hc hcap
  have hne : bq ≠ g := fun e => hof (by rw [eA, e])
  rw [hx] at c2
  have i1 : (k : Int) < (n : Int) := by omega
  have i2 : (0 : Int) ≤ (k : Int) := by omega
  have i3 : (m : Int) + 1 ≤ (vs[k].c : Int) := by omega
  have i4 : (0 : Int) ≤ (m : Int) := by omega
  have i5 : (1 : Int) ≤ (m : Int) + 1 := by omega
  have i6 : (0 : Int) ≤ (m : Int) + 1 := by omega
  have hqr := QOwn.of_owns hro
  rw [eA] at hqr
  have ha1 : (⟨bq, 0, none⟩ : Addr).add 1 = ⟨bq, 1, none⟩ := by simp [Addr.add]
  have ng : g ≠ w.heap.size := by omega
  have ng2 : bq ≠ w.heap.size := by omega
  by_cases hm0 : m = 0
  · subst hm0
    have i7 : (1 : Int) ≤ (vs[k].c : Int) := by omega
    have hnil : q.drop 1 = [] := List.eq_nil_of_length_eq_zero (by rw [List.length_drop]; omega)
    have HF := Lib.hid ((gown_cut (m := 0) (q := q.drop 1) (A2 := some ⟨bq, 0, none⟩) h hl hB hg hkl (by rw [hnil]; rfl) (by rw [hnil]; exact QOwn.nil _ _ _) (fun o e => by injection e with e; injection e with e; exact hne e) (fun e => by cases e) (by omega)).later ((by repeat (first | exact Below.refl _ _ | assumption | (refine below_drewN ?_ _) | (refine Below.drew ?_) | (refine Below.alloc ?_ (by first | omega | (simp; omega) | simp) _) | (refine Below.setCell ?_ (by first | omega | (simp; omega) | simp) _) | (refine below_trans ?_ (by assumption) (by first | omega | (simp; omega) | simp)))) : Below _ _ ((w.setCell ⟨g, k, none⟩ (.slice (some ⟨bq, 0, none⟩) 0 0)).alloc (.cells #[.slice (some ⟨g, 0, none⟩) n c] 24)).drew))
    have HG : Hid (w.grownBy ((w.setCell ⟨g, k, none⟩ (.slice (some ⟨bq, 0, none⟩) 0 0)).alloc (.cells #[.slice (some ⟨g, 0, none⟩) n c] 24)).drew (some g)) := Lib.hid ((grownBy_set w g k _).trans (grownBy_adrew _ _ _))
    clear hro hq hx hlm hcq h hl hof hnil hqr
    generalize vs[k].c = cc at *
    go_enter Try.func30, Try.ntmps30
    go_wp2_with fail
    go_region_held3 (fun X : World => X.cell? ⟨w.heap.size, 0, none⟩ = some (.slice (some ⟨g, 0, none⟩) n c))
      ((first | assumption | (simp [go_sem]; done) | exact (World.cell?_setCell_other _ _ _ _ (by intro e; injection e with e1; exact ng e1.symm)).trans (by first | assumption | (simp [go_sem]; done)) | exact (World.cell?_setCell_other _ _ _ _ (by intro e; injection e with e1; exact ng e1)).trans (by first | assumption | (simp [go_sem]; done))))
      (fail)
    all_goals
      go_wp2
      go_ret
      exact ⟨rfl, HF.out, HG.out⟩
  · have hm1 : ¬ (m + 1 = 1) := by omega
    have HF := Lib.hid ((gown_cut (m := m) (q := q.drop 1) (A2 := some ⟨bq, 1, none⟩) h hl hB hg hkl (by rw [List.length_drop]; omega) hqr.drop1 (fun o e => by injection e with e; injection e with e; exact hne e) (fun e => by cases e) (by omega)).later ((by repeat (first | exact Below.refl _ _ | assumption | (refine below_drewN ?_ _) | (refine Below.drew ?_) | (refine Below.alloc ?_ (by first | omega | (simp; omega) | simp) _) | (refine Below.setCell ?_ (by first | omega | (simp; omega) | simp) _) | (refine below_trans ?_ (by assumption) (by first | omega | (simp; omega) | simp)))) : Below _ _ ((w.setCell ⟨g, k, none⟩ (.slice (some ⟨bq, 1, none⟩) m m)).alloc (.cells #[.slice (some ⟨g, 0, none⟩) n c] 24)).drew))
    have HG : Hid (w.grownBy ((w.setCell ⟨g, k, none⟩ (.slice (some ⟨bq, 1, none⟩) m m)).alloc (.cells #[.slice (some ⟨g, 0, none⟩) n c] 24)).drew (some g)) := Lib.hid ((grownBy_set w g k _).trans (grownBy_adrew _ _ _))
    clear hro hq hx hlm hcq h hl hof hqr
    generalize vs[k].c = cc at *
    go_enter Try.func30, Try.ntmps30
    go_wp2_with fail
    go_region_held3 (fun X : World => X.cell? ⟨w.heap.size, 0, none⟩ = some (.slice (some ⟨g, 0, none⟩) n c))
      ((first | assumption | (simp [go_sem]; done) | exact (World.cell?_setCell_other _ _ _ _ (by intro e; injection e with e1; exact ng e1.symm)).trans (by first | assumption | (simp [go_sem]; done)) | exact (World.cell?_setCell_other _ _ _ _ (by intro e; injection e with e1; exact ng e1)).trans (by first | assumption | (simp [go_sem]; done))))
      (fail)
    all_goals
      go_wp2
      go_ret
      exact ⟨rfl, HF.out, HG.out⟩
end
end Go.Proofs.Ytlaladhnidcoiaa
