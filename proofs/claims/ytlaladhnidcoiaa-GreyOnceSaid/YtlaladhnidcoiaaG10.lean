/- Contracts of the document's queues: Has, many, Same. -/
import Derived.Test.YtlaladhnidcoiaaG9
import Derived.BigQuiet
namespace Go.Proofs.Ytlaladhnidcoiaa
open Go.RowKit
set_option linter.unusedVariables false
set_option linter.unusedSimpArgs false

theorem count_next (q : List Nat) (a j : Nat) (hj : j < q.length) : (q.take (j + 1)).count a = (q.take j).count a + (if q.getD j 0 = a then 1 else 0) := by
  rw [take_next q j hj, List.count_append, List.count_singleton]
  simp
section
variable {w : World} {A : Option Addr} {qs : List (List Nat)} (cap : Nat)
set_option maxHeartbeats 2000000 in
theorem xghas_any (hr : GRow w A qs) (hl : qs.length ≤ 4) (hf : qs.flatten.length ≤ 1000000) (a : Nat) (m : Nat) (hm : qs.flatten.count a = m) : Calls Try.prog 22 #[gv A qs.length cap, .int .u64 (a : Nat)] w fun e w' => e = .returned (.int .i64 (m : Nat)) ∧ Below w.heap.size w w' := by
  unfold gv
  obtain ⟨n, hn⟩ : ∃ n, Hid (qs.length = n) := ⟨_, rfl⟩
  have hn4 : n ≤ 4 := by have := hn.out; omega
  have HM := Lib.hid hm
  have HFL := Lib.hid hf
  rw [hn.out]
  clear hm hl hf
  go_enter Try.func22, Try.ntmps22
  go_wp2_with fail
  go_loopw [5, 13] (fun ss ii wr => ∃ k : Nat, ii = .int .i64 (k : Nat) ∧ k ≤ n ∧ ∃ c : Nat, ss = .int .i64 (c : Nat) ∧ Hid ((qs.take k).flatten.count a = c) ∧ w.heap.size ≤ wr.heap.size ∧ Below w.heap.size w wr) (fun _ ii _ => n - (intOf ii).toNat)
  case atStart => exact ⟨0, rfl, Nat.zero_le _, 0, rfl, Lib.hid rfl, by simp, (by repeat (first | exact Below.refl _ _ | assumption | (refine below_drewN ?_ _) | (refine Below.drew ?_) | (refine Below.alloc ?_ (by first | omega | (simp; omega) | simp) _) | (refine Below.setCell ?_ (by first | omega | (simp; omega) | simp) _) | (refine below_trans ?_ (by assumption) (by first | omega | (simp; omega) | simp))))⟩
  case round =>
    obtain ⟨k, rfl, hk, c, rfl, HC, hsz, hb_wr⟩ := hrel
    by_cases hlt : k < n
    · have hkq : k < qs.length := by have := hn.out; omega
      obtain ⟨b, off, hA, hbb, hc⟩ := hr.at_ (by omega)
      obtain ⟨Ai, ci, c1, r1, _⟩ := hc k hkq
      have c1 := (hb_wr.cell (p := ⟨b, off + k, none⟩) hbb).trans c1
      have HNX := Lib.hid (flat_next qs k hkq)
      have hql : (nq qs k).length ≤ 1000000 := Nat.le_trans (nq_len_le qs k) HFL.out
      have hcl : c ≤ 1000000 := by
        rw [← HC.out]
        refine Nat.le_trans List.count_le_length (Nat.le_trans ?_ HFL.out)
        rw [flat_split qs k hkq]
        simp only [List.length_append]
        omega
      subst hA
      have i1 : (k : Int) < (n : Int) := by omega
      have i2 : (0 : Int) ≤ (k : Int) := by omega
      generalize nq qs k = q at *
      clear hc
      go_wp2_with fail
      generalize wr = wA at *
      go_loopw [5, 19] (fun ss jj wr => ∃ j : Nat, jj = .int .i64 (j : Nat) ∧ j ≤ q.length ∧ ∃ d : Nat, ss = .int .i64 (d : Nat) ∧ Hid (c + (q.take j).count a = d) ∧ wr = wA) (fun _ jj _ => q.length - (intOf jj).toNat)
      case atStart => exact ⟨0, rfl, Nat.zero_le _, c, rfl, Lib.hid (by simp), rfl⟩
      case round =>
        obtain ⟨j, rfl, hj, d, rfl, HD, rfl⟩ := hrel
        by_cases hlt2 : j < q.length
        · obtain ⟨b3, o3, rfl, hb3, c3⟩ := (r1.later hb_wr).cellAt (k := j) hlt2
          have HCN := Lib.hid (count_next q a j hlt2)
          have j1 : (j : Int) < (q.length : Int) := by omega
          have j2 : (0 : Int) ≤ (j : Int) := by omega
          have hd : d ≤ 2000000 := by
            rw [← HD.out]
            have := List.count_le_length (a := a) (l := q.take j)
            rw [List.length_take] at this
            omega
          obtain ⟨x, hx⟩ : ∃ x, Hid (q.getD j 0 = x) := ⟨_, rfl⟩
          rw [hx.out] at c3
          by_cases he : x = a
          · have f1 : ((x : Int) == (a : Int)) = true := by simp [he]
            have HD2 : Hid (c + (q.take (j + 1)).count a = d + 1) := Lib.hid (by rw [HCN.out, hx.out, if_pos he, ← Nat.add_assoc, HD.out])
            clear he
            go_wp2
            go_roundw
            case rel => exact ⟨j + 1, by go_num, by omega, d + 1, by go_num, HD2, by first | rfl | trivial⟩
            case measure => simp [intOf]; omega
          · have f1 : ((x : Int) == (a : Int)) = false := beq_eq_false_iff_ne.2 (by omega)
            have HD2 : Hid (c + (q.take (j + 1)).count a = d) := Lib.hid (by rw [HCN.out, hx.out, if_neg he]; exact HD.out)
            clear he
            go_wp2
            go_roundw
            case rel => exact ⟨j + 1, by go_num, by omega, d, rfl, HD2, by first | rfl | trivial⟩
            case measure => simp [intOf]; omega
        · obtain rfl : j = q.length := by omega
          have HD2 : Hid ((qs.take (k + 1)).flatten.count a = d) := Lib.hid (by rw [HNX.out, List.count_append, HC.out]; have := HD.out; rwa [List.take_length] at this)
          go_wp2
          go_roundw
          case rel => exact ⟨k + 1, by go_num, by omega, d, rfl, HD2, hsz, hb_wr⟩
          case measure => simp [intOf]; omega
    · obtain rfl : k = n := by omega
      have e1 : m = c := by
        have h1 : qs.take k = qs := by rw [← hn.out, List.take_length]
        rw [← HM.out, ← HC.out, h1]
      subst e1
      go_wp2
      go_ret
      exact ⟨rfl, hb_wr⟩
set_option maxHeartbeats 2000000 in
theorem xgmany_any (hr : GRow w A qs) (hl : qs.length ≤ 4) (hf : qs.flatten.length ≤ 1000000) (m : Nat) (hm : qs.flatten.length = m) : Calls Try.prog 27 #[gv A qs.length cap] w fun e w' => e = .returned (.int .i64 (m : Nat)) ∧ Below w.heap.size w w' := by
  unfold gv
  obtain ⟨n, hn⟩ : ∃ n, Hid (qs.length = n) := ⟨_, rfl⟩
  have hn4 : n ≤ 4 := by have := hn.out; omega
  have HM := Lib.hid hm
  have HFL := Lib.hid hf
  rw [hn.out]
  clear hm hl hf
  go_enter Try.func27, Try.ntmps27
  go_wp2_with fail
  go_loopw [3, 9] (fun ss ii wr => ∃ k : Nat, ii = .int .i64 (k : Nat) ∧ k ≤ n ∧ ∃ c : Nat, ss = .int .i64 (c : Nat) ∧ c ≤ 1000000 ∧ Hid ((qs.take k).flatten.length = c) ∧ w.heap.size ≤ wr.heap.size ∧ Below w.heap.size w wr) (fun _ ii _ => n - (intOf ii).toNat)
  case atStart => exact ⟨0, rfl, Nat.zero_le _, 0, rfl, by omega, Lib.hid rfl, by simp, (by repeat (first | exact Below.refl _ _ | assumption | (refine below_drewN ?_ _) | (refine Below.drew ?_) | (refine Below.alloc ?_ (by first | omega | (simp; omega) | simp) _) | (refine Below.setCell ?_ (by first | omega | (simp; omega) | simp) _) | (refine below_trans ?_ (by assumption) (by first | omega | (simp; omega) | simp))))⟩
  case round =>
    obtain ⟨k, rfl, hk, c, rfl, hcl, HC, hsz, hb_wr⟩ := hrel
    by_cases hlt : k < n
    · have hkq : k < qs.length := by have := hn.out; omega
      obtain ⟨b, off, hA, hbb, hc⟩ := (hr.later hb_wr).at_ (by omega)
      obtain ⟨Ai, ci, c1, r1, _⟩ := hc k hkq
      have hnx := sum_next qs k hkq
      have hsp := flat_split qs k hkq
      have hcl2 : c + (nq qs k).length ≤ 1000000 := by
        refine Nat.le_trans ?_ HFL.out
        rw [hsp, ← HC.out]
        simp only [List.length_append]
        omega
      rw [HC.out] at hnx
      have HX := Lib.hid hnx
      subst hA
      clear hc hnx hsp r1
      have i1 : (k : Int) < (n : Int) := by omega
      have i2 : (0 : Int) ≤ (k : Int) := by omega
      generalize (nq qs k).length = q at *
      go_wp2
      go_roundw
      case rel => exact ⟨k + 1, by go_num, by omega, c + q, by go_num, hcl2, HX, hsz, hb_wr⟩
      case measure => simp [intOf]; omega
    · obtain rfl : k = n := by omega
      have e1 : m = c := by
        have h1 : qs.take k = qs := by rw [← hn.out, List.take_length]
        rw [← HM.out, ← HC.out, h1]
      subst e1
      go_wp2
      go_ret
      exact ⟨rfl, hb_wr⟩
end
section
variable {w : World} {A C : Option Addr} {qs ps : List (List Nat)} (cap cc : Nat)
set_option maxHeartbeats 2000000 in
theorem xgsame_any (hr : GRow w A qs) (hp : GRow w C ps) (r : Bool) (hR : r = true ↔ qs = ps) : Calls Try.prog 15 #[gv A qs.length cap, gv C ps.length cc] w fun e w' => e = .returned (.bool r) ∧ Below w.heap.size w w' := by
  unfold gv
  have HR := Lib.hid hR
  clear hR
  have hlq := hr.lim
  have hlp := hp.lim
  by_cases hll : qs.length = ps.length
  · obtain ⟨n, hn⟩ : ∃ n, Hid (qs.length = n) := ⟨_, rfl⟩
    have hpn : Hid (ps.length = n) := Lib.hid (hll.symm.trans hn.out)
    have hnl : n ≤ 5864062014805 := by rw [← hn.out]; exact hlq.many
    rw [hn.out, hpn.out]
    clear hll
    go_enter Try.func15, Try.ntmps15
    go_wp2_with fail
    go_loopw [16] (fun ii wr => ∃ k : Nat, ii = .int .i64 (k : Nat) ∧ k ≤ n ∧ Hid (∀ i, i < k → nq qs i = nq ps i) ∧ Bx wr w.heap.size (.slice A n cap) ∧ Bx wr (w.heap.size + 1) (.slice C n cc) ∧ w.heap.size + 2 ≤ wr.heap.size ∧ Below w.heap.size w wr) (fun ii _ => n - (intOf ii).toNat)
    case atStart =>
      have B1 := (Bx.new (w.alloc (.cells #[.slice A n cap] 24)) (.slice C n cc) 24)
      rw [World.size_alloc] at B1
      exact ⟨0, rfl, Nat.zero_le _, Lib.hid (fun i hi => by omega), (Bx.new w _ _).alloc _, B1, by simp, (by repeat (first | exact Below.refl _ _ | assumption | (refine below_drewN ?_ _) | (refine Below.drew ?_) | (refine Below.alloc ?_ (by first | omega | (simp; omega) | simp) _) | (refine Below.setCell ?_ (by first | omega | (simp; omega) | simp) _) | (refine below_trans ?_ (by assumption) (by first | omega | (simp; omega) | simp))))⟩
    case round =>
      obtain ⟨k, rfl, hk, HI, BA, BC, hsz, hb_wr⟩ := hrel
      obtain ⟨a0, a1⟩ := id BA
      obtain ⟨b0, b1⟩ := id BC
      by_cases hlt : k < n
      · obtain ⟨b, off, hA, hbb, hc⟩ := (hr.later hb_wr).at_ (by have := hn.out; omega)
        obtain ⟨Ai, ci, c1, r1, _⟩ := hc k (by have := hn.out; omega)
        obtain ⟨b2, off2, hC, hbb2, hc2⟩ := (hp.later hb_wr).at_ (by have := hpn.out; omega)
        obtain ⟨Aj, cj, c2, r2, _⟩ := hc2 k (by have := hpn.out; omega)
        have l1 := hlq.each k
        have l2 := hlp.each k
        subst hA hC
        clear hc hc2
        have i1 : (k : Int) < (n : Int) := by omega
        have i2 : (0 : Int) ≤ (k : Int) := by omega
        have hsr : w.heap.size ≤ wr.heap.size := by omega
        by_cases he : nq qs k = nq ps k
        · have HS := Lib.hid fun (w : World) hr hq => xsameN_any (w := w) (A := Ai) (C := Aj) (t := nq qs k) (u := nq ps k) ci cj hr hq l1 l2 true ⟨fun _ => he, fun _ => rfl⟩
          have HI2 : Hid (∀ i, i < k + 1 → nq qs i = nq ps i) := Lib.hid (fun i hi => by
            by_cases e : i = k
            · subst e; exact he
            · exact HI.out i (by omega))
          clear he
          generalize nq qs k = q1 at *
          generalize nq ps k = q2 at *
          go_wp2_with fail
          go_region_held3 (fun X : World => X.cell? ⟨w.heap.size, 0, none⟩ = some (.slice (some ⟨b, off, none⟩) n cap) ∧ X.cell? ⟨w.heap.size + 1, 0, none⟩ = some (.slice (some ⟨b2, off2, none⟩) n cc) ∧ X.cell? ⟨b, off + k, none⟩ = some (.slice Ai q1.length ci) ∧ X.cell? ⟨b2, off2 + k, none⟩ = some (.slice Aj q2.length cj))
            ((refine ⟨?_, ?_, ?_, ?_⟩ <;> assumption))
            ((first
              | (go_at_call 31; refine (HS.out _ (r1.later (by repeat (first | exact Below.refl _ _ | assumption | (refine below_drewN ?_ _) | (refine Below.drew ?_) | (refine Below.alloc ?_ (by first | omega | (simp; omega) | simp) _) | (refine Below.setCell ?_ (by first | omega | (simp; omega) | simp) _) | (refine below_trans ?_ (by assumption) (by first | omega | (simp; omega) | simp))))) (r2.later (by repeat (first | exact Below.refl _ _ | assumption | (refine below_drewN ?_ _) | (refine Below.drew ?_) | (refine Below.alloc ?_ (by first | omega | (simp; omega) | simp) _) | (refine Below.setCell ?_ (by first | omega | (simp; omega) | simp) _) | (refine below_trans ?_ (by assumption) (by first | omega | (simp; omega) | simp)))))).mono ?_; rintro e w5 ⟨rfl, hb_w5⟩; have hk5 : Below wr.heap.size wr w5 := (by repeat (first | exact Below.refl _ _ | assumption | (refine below_drewN ?_ _) | (refine Below.drew ?_) | (refine Below.alloc ?_ (by first | omega | (simp; omega) | simp) _) | (refine Below.setCell ?_ (by first | omega | (simp; omega) | simp) _) | (refine below_trans ?_ (by assumption) (by first | omega | (simp; omega) | simp)))); have hs5 := hk5.size; have p1 := (BA.later hk5).c; have p2 := (BC.later hk5).c; have p3 : w5.cell? ⟨b, off + k, none⟩ = some (.slice Ai q1.length ci) := (hk5.cell (p := ⟨b, off + k, none⟩) hbb).trans c1; have p4 : w5.cell? ⟨b2, off2 + k, none⟩ = some (.slice Aj q2.length cj) := (hk5.cell (p := ⟨b2, off2 + k, none⟩) hbb2).trans c2)))
          all_goals
            have b6 : Below w.heap.size w w5 := hb_wr.trans (hk5.mono hsr)
            have BA5 := BA.later hk5
            have BC5 := BC.later hk5
            go_wp2
            go_roundw
            case rel => exact ⟨k + 1, by go_num, by omega, HI2, BA5, BC5, by omega, b6⟩
            case measure => simp [intOf]; omega
        · have HS := Lib.hid fun (w : World) hr hq => xsameN_any (w := w) (A := Ai) (C := Aj) (t := nq qs k) (u := nq ps k) ci cj hr hq l1 l2 false ⟨fun h => (by cases h), fun h => absurd h he⟩
          have e1 : r = false := by
            cases r
            · rfl
            · exact absurd (by rw [HR.out.1 rfl]) he
          subst e1
          clear he
          generalize nq qs k = q1 at *
          generalize nq ps k = q2 at *
          go_wp2_with fail
          go_region_held3 (fun X : World => X.cell? ⟨w.heap.size, 0, none⟩ = some (.slice (some ⟨b, off, none⟩) n cap) ∧ X.cell? ⟨w.heap.size + 1, 0, none⟩ = some (.slice (some ⟨b2, off2, none⟩) n cc) ∧ X.cell? ⟨b, off + k, none⟩ = some (.slice Ai q1.length ci) ∧ X.cell? ⟨b2, off2 + k, none⟩ = some (.slice Aj q2.length cj))
            ((refine ⟨?_, ?_, ?_, ?_⟩ <;> assumption))
            ((first
              | (go_at_call 31; refine (HS.out _ (r1.later (by repeat (first | exact Below.refl _ _ | assumption | (refine below_drewN ?_ _) | (refine Below.drew ?_) | (refine Below.alloc ?_ (by first | omega | (simp; omega) | simp) _) | (refine Below.setCell ?_ (by first | omega | (simp; omega) | simp) _) | (refine below_trans ?_ (by assumption) (by first | omega | (simp; omega) | simp))))) (r2.later (by repeat (first | exact Below.refl _ _ | assumption | (refine below_drewN ?_ _) | (refine Below.drew ?_) | (refine Below.alloc ?_ (by first | omega | (simp; omega) | simp) _) | (refine Below.setCell ?_ (by first | omega | (simp; omega) | simp) _) | (refine below_trans ?_ (by assumption) (by first | omega | (simp; omega) | simp)))))).mono ?_; rintro e w5 ⟨rfl, hb_w5⟩; have hk5 : Below wr.heap.size wr w5 := (by repeat (first | exact Below.refl _ _ | assumption | (refine below_drewN ?_ _) | (refine Below.drew ?_) | (refine Below.alloc ?_ (by first | omega | (simp; omega) | simp) _) | (refine Below.setCell ?_ (by first | omega | (simp; omega) | simp) _) | (refine below_trans ?_ (by assumption) (by first | omega | (simp; omega) | simp)))); have hs5 := hk5.size; have p1 := (BA.later hk5).c; have p2 := (BC.later hk5).c; have p3 : w5.cell? ⟨b, off + k, none⟩ = some (.slice Ai q1.length ci) := (hk5.cell (p := ⟨b, off + k, none⟩) hbb).trans c1; have p4 : w5.cell? ⟨b2, off2 + k, none⟩ = some (.slice Aj q2.length cj) := (hk5.cell (p := ⟨b2, off2 + k, none⟩) hbb2).trans c2)))
          all_goals
            have b6 : Below w.heap.size w w5 := hb_wr.trans (hk5.mono hsr)
            go_wp2
            go_ret
            exact ⟨rfl, b6⟩
      · obtain rfl : k = n := by omega
        have e1 : r = true := HR.out.2 (by
          apply List.ext_getElem (hn.out.trans hpn.out.symm)
          intro i h1 h2
          have := HI.out i (by have := hn.out; omega)
          rwa [nq_get _ _ h1, nq_get _ _ h2] at this)
        subst e1
        go_wp2
        go_ret
        exact ⟨rfl, hb_wr⟩
  · have e1 : r = false := by
      cases r
      · rfl
      · exact absurd (by rw [HR.out.1 rfl]) hll
    subst e1
    have f1 : ((qs.length : Int) != (ps.length : Int)) = true := by simp; omega
    clear hll
    go_enter Try.func15, Try.ntmps15
    go_wp2
    go_ret
    exact ⟨rfl, (by repeat (first | exact Below.refl _ _ | assumption | (refine below_drewN ?_ _) | (refine Below.drew ?_) | (refine Below.alloc ?_ (by first | omega | (simp; omega) | simp) _) | (refine Below.setCell ?_ (by first | omega | (simp; omega) | simp) _) | (refine below_trans ?_ (by assumption) (by first | omega | (simp; omega) | simp))))⟩
end
end Go.Proofs.Ytlaladhnidcoiaa
