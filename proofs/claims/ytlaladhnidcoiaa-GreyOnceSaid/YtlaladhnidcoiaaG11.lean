/- Contracts of the document's queues: Check, Many. -/
import Derived.Test.YtlaladhnidcoiaaG10
namespace Go.Proofs.Ytlaladhnidcoiaa
open Go.RowKit
set_option linter.unusedVariables false
set_option linter.unusedSimpArgs false

theorem nodup_of_count {l : List Nat} (h : ∀ a ∈ l, l.count a ≤ 1) : l.Nodup := List.nodup_iff_count.2 (fun a => by
  by_cases ha : a ∈ l
  · exact h a ha
  · rw [List.count_eq_zero.2 ha]; omega)
theorem count_of_nodup {l : List Nat} (h : l.Nodup) (a : Nat) : l.count a ≤ 1 := List.nodup_iff_count.1 h a
section
variable {w : World} {A : Option Addr} {qs : List (List Nat)} (cap : Nat)
set_option maxHeartbeats 4000000 in
theorem xgcheck_any (hr : GRow w A qs) (y : Int) (hy : ChkG qs y) : Calls Try.prog 21 #[gv A qs.length cap] w fun e w' => e = .returned (.int .i64 y) ∧ Below w.heap.size w w' := by
  unfold gv
  have HY := Lib.hid hy
  have hlim := hr.lim
  clear hy
  by_cases h1 : 1 ≤ qs.length ∧ qs.length ≤ 4
  · have f1 : decide ((qs.length : Int) < 1) = false := by simp; omega
    have f2 : decide ((4 : Int) < (qs.length : Int)) = false := by simp; omega
    obtain ⟨n, hn⟩ : ∃ n, Hid (qs.length = n) := ⟨_, rfl⟩
    have hlo : 1 ≤ n := by have := hn.out; omega
    have hhi : n ≤ 4 := by have := hn.out; omega
    rw [hn.out] at f1 f2 ⊢
    clear h1
    go_enter Try.func21, Try.ntmps21
    go_wp2_with fail
    go_loopw [3, 23] (fun ss ii wr => ∃ k : Nat, ii = .int .i64 (k : Nat) ∧ k ≤ n ∧ ∃ m : Nat, Hid (((qs.take k).flatten).length = m) ∧ m ≤ 16384 ∧ ss = .int .i64 (m : Nat) ∧ w.heap.size + 1 ≤ wr.heap.size ∧ Bx wr w.heap.size (.slice A n cap) ∧ Below w.heap.size w wr) (fun _ ii _ => n - (intOf ii).toNat)
    case atStart => exact ⟨0, rfl, Nat.zero_le _, 0, Lib.hid rfl, by omega, rfl, by simp, Bx.new w _ _, (by repeat (first | exact Below.refl _ _ | assumption | (refine below_drewN ?_ _) | (refine Below.drew ?_) | (refine Below.alloc ?_ (by first | omega | (simp; omega) | simp) _) | (refine Below.setCell ?_ (by first | omega | (simp; omega) | simp) _) | (refine below_trans ?_ (by assumption) (by first | omega | (simp; omega) | simp))))⟩
    case round =>
      obtain ⟨k, rfl, hk, m, hm, hml, rfl, hsz, HB, hb_wr⟩ := hrel
      have hsr := hb_wr.size
      obtain ⟨hbc, hbf⟩ := id HB
      by_cases hlt : k < n
      · have hkq : k < qs.length := by have := hn.out; omega
        obtain ⟨b, off, hA, hbb, hc⟩ := (hr.later hb_wr).at_ (by have := hn.out; omega)
        obtain ⟨Ai, ci, c1, _⟩ := hc k hkq
        have hnx := sum_next qs k hkq
        have hsp := flat_split qs k hkq
        have hq := hlim.each k
        rw [hm.out] at hnx
        have HX := Lib.hid hnx
        have HGT : Hid (m + (nq qs k).length ≤ qs.flatten.length) := Lib.hid (by rw [hsp, ← hm.out]; simp only [List.length_append]; omega)
        subst hA
        clear hc hnx hsp
        have i1 : (k : Int) < (n : Int) := by omega
        have i2 : (0 : Int) ≤ (k : Int) := by omega
        generalize (nq qs k).length = q at *
        by_cases hq1 : q ≤ 16384
        · have d1 : decide ((16384 : Int) < (q : Int)) = false := by simp; omega
          have e1 : IntKind.i64.wrap ((16384 : Int) - (q : Int)) = 16384 - (q : Int) := by rw [IntWalk.i64_in _ (by omega)]
          by_cases hq2 : m + q ≤ 16384
          · have d2 : decide ((16384 : Int) - (q : Int) < (m : Int)) = false := by simp; omega
            go_wp2
            go_roundw
            case rel => exact ⟨k + 1, by go_num, by omega, m + q, HX, by omega, by go_num, hsz, HB, (by repeat (first | exact Below.refl _ _ | assumption | (refine below_drewN ?_ _) | (refine Below.drew ?_) | (refine Below.alloc ?_ (by first | omega | (simp; omega) | simp) _) | (refine Below.setCell ?_ (by first | omega | (simp; omega) | simp) _) | (refine below_trans ?_ (by assumption) (by first | omega | (simp; omega) | simp))))⟩
            case measure => simp [intOf]; omega
          · have d2 : decide ((16384 : Int) - (q : Int) < (m : Int)) = true := by simp; omega
            have ey : y = 2 := by
              rcases HY.out with ⟨ho, _⟩ | ⟨_, h⟩
              · have := ho.len; have := HGT.out; omega
              · exact h
            subst ey
            go_wp2
            go_ret
            exact ⟨rfl, (by repeat (first | exact Below.refl _ _ | assumption | (refine below_drewN ?_ _) | (refine Below.drew ?_) | (refine Below.alloc ?_ (by first | omega | (simp; omega) | simp) _) | (refine Below.setCell ?_ (by first | omega | (simp; omega) | simp) _) | (refine below_trans ?_ (by assumption) (by first | omega | (simp; omega) | simp))))⟩
        · have d1 : decide ((16384 : Int) < (q : Int)) = true := by simp; omega
          have ey : y = 2 := by
            rcases HY.out with ⟨ho, _⟩ | ⟨_, h⟩
            · have := ho.len; have := HGT.out; omega
            · exact h
          subst ey
          go_wp2
          go_ret
          exact ⟨rfl, (by repeat (first | exact Below.refl _ _ | assumption | (refine below_drewN ?_ _) | (refine Below.drew ?_) | (refine Below.alloc ?_ (by first | omega | (simp; omega) | simp) _) | (refine Below.setCell ?_ (by first | omega | (simp; omega) | simp) _) | (refine below_trans ?_ (by assumption) (by first | omega | (simp; omega) | simp))))⟩
      · obtain rfl : k = n := by omega
        have hall : qs.flatten.length = m := by rw [← hm.out, ← hn.out, List.take_length]
        have HALL := Lib.hid hall
        have HHAS := Lib.hid fun (w : World) hr a m hm => xghas_any (w := w) (A := A) (qs := qs) cap hr (by have := hn.out; omega) (by omega) a m hm
        rw [hn.out] at HHAS
        unfold gv at HHAS
        clear hall hm
        go_wp2_with fail
        go_loopw [45] (fun ii wr => ∃ i : Nat, ii = .int .i64 (i : Nat) ∧ i ≤ k ∧ Hid (∀ t, t < i → ∀ a ∈ nq qs t, a ≠ 0 ∧ qs.flatten.count a ≤ 1) ∧ w.heap.size + 1 ≤ wr.heap.size ∧ Bx wr w.heap.size (.slice A k cap) ∧ Below w.heap.size w wr) (fun ii _ => k - (intOf ii).toNat)
        case atStart => exact ⟨0, rfl, Nat.zero_le _, Lib.hid (fun t ht => by omega), hsz, HB, hb_wr⟩
        case round =>
          clear hb_wr HB hbc hbf hsz hsr
          generalize wr = wA at *
          obtain ⟨i, rfl, hi, hG, hsz, HB, hb_wr⟩ := hrel
          have hsr := hb_wr.size
          obtain ⟨hbc, hbf⟩ := id HB
          by_cases hlt2 : i < k
          · have hkq : i < qs.length := by have := hn.out; omega
            obtain ⟨b, off, hA, hbb, hc⟩ := hr.at_ (by omega)
            obtain ⟨Ai, ci, c1, r1, _⟩ := hc i hkq
            have c1 := (hb_wr.cell (p := ⟨b, off + i, none⟩) hbb).trans c1
            have i1 : (i : Int) < (k : Int) := by omega
            have i2 : (0 : Int) ≤ (i : Int) := by omega
            have hq := hlim.each i
            obtain ⟨q, hQ⟩ : ∃ q, Hid (nq qs i = q) := ⟨_, rfl⟩
            have HMEM : Hid (∀ a ∈ q, a ∈ qs.flatten) := Lib.hid (fun a ha => by rw [← hQ.out] at ha; exact flat_mem hkq ha)
            rw [hQ.out] at c1 r1 hq
            have hA2 := hA
            subst hA
            clear hc
            go_wp2_with fail
            go_loopw [51] (fun jj wr => ∃ j : Nat, jj = .int .i64 (j : Nat) ∧ j ≤ q.length ∧ Hid (∀ t, t < j → q.getD t 0 ≠ 0 ∧ qs.flatten.count (q.getD t 0) ≤ 1) ∧ w.heap.size + 1 ≤ wr.heap.size ∧ Bx wr w.heap.size (.slice (some ⟨b, off, none⟩) k cap) ∧ Below w.heap.size w wr) (fun jj _ => q.length - (intOf jj).toNat)
            case atStart => exact ⟨0, rfl, Nat.zero_le _, Lib.hid (fun t ht => by omega), hsz, HB, hb_wr⟩
            case round =>
              clear hb_wr HB hbc hbf hsz hsr
              generalize wr = wB at *
              obtain ⟨j, rfl, hj, hG2, hsz, HB, hb_wr⟩ := hrel
              have hsr := hb_wr.size
              obtain ⟨hbc, hbf⟩ := id HB
              by_cases hlt3 : j < q.length
              · have hr3 : Row wB wB.heap.size Ai q := r1.later hb_wr
                obtain ⟨b3, o3, rfl, hb3, c3⟩ := hr3.cellAt (k := j) hlt3
                have hmm : Hid (q.getD j 0 ∈ q) := Lib.hid (by rw [List.getD_eq_getElem?_getD, List.getElem?_eq_getElem hlt3]; exact List.getElem_mem hlt3)
                have j1 : (j : Int) < (q.length : Int) := by omega
                have j2 : (0 : Int) ≤ (j : Int) := by omega
                obtain ⟨x, hx⟩ : ∃ x, Hid (q.getD j 0 = x) := ⟨_, rfl⟩
                rw [hx.out] at c3 hmm
                by_cases hx0 : x = 0
                · have f0 : ((x : Int) == 0) = true := by simp [hx0]
                  have ey : y = 2 := by
                    rcases HY.out with ⟨ho, _⟩ | ⟨_, h⟩
                    · exact absurd hx0 (ho.nz x (HMEM.out x hmm.out))
                    · exact h
                  subst ey
                  clear hx0
                  go_wp2
                  go_ret
                  exact ⟨rfl, (by repeat (first | exact Below.refl _ _ | assumption | (refine below_drewN ?_ _) | (refine Below.drew ?_) | (refine Below.alloc ?_ (by first | omega | (simp; omega) | simp) _) | (refine Below.setCell ?_ (by first | omega | (simp; omega) | simp) _) | (refine below_trans ?_ (by assumption) (by first | omega | (simp; omega) | simp))))⟩
                · have f0 : ((x : Int) == 0) = false := beq_eq_false_iff_ne.2 (by omega)
                  obtain ⟨c, hc⟩ : ∃ c, Hid (qs.flatten.count x = c) := ⟨_, rfl⟩
                  by_cases hc1 : c ≤ 1
                  · have d1 : decide ((1 : Int) < (c : Int)) = false := by simp; omega
                    have HG3 : Hid (∀ t, t < j + 1 → q.getD t 0 ≠ 0 ∧ qs.flatten.count (q.getD t 0) ≤ 1) := Lib.hid (fun t ht => by
                      by_cases e : t = j
                      · subst e; rw [hx.out]; exact ⟨hx0, by rw [hc.out]; exact hc1⟩
                      · exact hG2.out t (by omega))
                    clear hx0
                    go_wp2_with fail
                    go_at_call 22
                    refine (HHAS.out _ (hr.later hb_wr) x c hc.out).mono ?_
                    rintro e w5 ⟨rfl, hb_w5⟩
                    have hs5 := hb_w5.size
                    have b5 : Below w.heap.size w w5 := (by repeat (first | exact Below.refl _ _ | assumption | (refine below_drewN ?_ _) | (refine Below.drew ?_) | (refine Below.alloc ?_ (by first | omega | (simp; omega) | simp) _) | (refine Below.setCell ?_ (by first | omega | (simp; omega) | simp) _) | (refine below_trans ?_ (by assumption) (by first | omega | (simp; omega) | simp))))
                    have HB5 := HB.later hb_w5
                    go_wp2
                    go_roundw
                    case rel => exact ⟨j + 1, by go_num, by omega, HG3, by omega, HB5, b5⟩
                    case measure => simp [intOf]; omega
                  · have d1 : decide ((1 : Int) < (c : Int)) = true := by simp; omega
                    have ey : y = 2 := by
                      rcases HY.out with ⟨ho, _⟩ | ⟨_, h⟩
                      · have := count_of_nodup ho.nd x
                        rw [hc.out] at this
                        exact absurd this hc1
                      · exact h
                    subst ey
                    clear hx0
                    go_wp2_with fail
                    go_at_call 22
                    refine (HHAS.out _ (hr.later hb_wr) x c hc.out).mono ?_
                    rintro e w5 ⟨rfl, hb_w5⟩
                    go_wp2
                    go_ret
                    exact ⟨rfl, (by repeat (first | exact Below.refl _ _ | assumption | (refine below_drewN ?_ _) | (refine Below.drew ?_) | (refine Below.alloc ?_ (by first | omega | (simp; omega) | simp) _) | (refine Below.setCell ?_ (by first | omega | (simp; omega) | simp) _) | (refine below_trans ?_ (by assumption) (by first | omega | (simp; omega) | simp))))⟩
              · obtain rfl : j = q.length := by omega
                have HG3 : Hid (∀ t, t < i + 1 → ∀ a ∈ nq qs t, a ≠ 0 ∧ qs.flatten.count a ≤ 1) := Lib.hid (fun t ht a ha => by
                  by_cases e : t = i
                  · subst e
                    rw [hQ.out] at ha
                    obtain ⟨z, hz, rfl⟩ := List.getElem_of_mem ha
                    have := hG2.out z hz
                    rwa [List.getD_eq_getElem?_getD, List.getElem?_eq_getElem hz] at this
                  · exact hG.out t (by omega) a ha)
                go_wp2
                go_roundw
                case rel => exact ⟨i + 1, by go_num, by omega, HG3, by omega, HB, hb_wr⟩
                case measure => simp [intOf]; omega
          · obtain rfl : i = k := by omega
            have hall2 : ∀ a ∈ qs.flatten, a ≠ 0 ∧ qs.flatten.count a ≤ 1 := fun a ha => by
              obtain ⟨l, hl, hal⟩ := List.mem_flatten.1 ha
              obtain ⟨z, hz, rfl⟩ := List.getElem_of_mem hl
              exact hG.out z (by have := hn.out; omega) a (by rw [nq_get _ _ hz]; exact hal)
            have ey : y = 0 := by
              rcases HY.out with ⟨_, h⟩ | ⟨ho, _⟩
              · exact h
              · exact absurd ⟨by have := hn.out; omega, by have := hn.out; omega, by have := HALL.out; omega, fun a ha => (hall2 a ha).1, nodup_of_count (fun a ha => (hall2 a ha).2)⟩ ho
            subst ey
            clear hall2
            go_wp2
            go_ret
            exact ⟨rfl, (by repeat (first | exact Below.refl _ _ | assumption | (refine below_drewN ?_ _) | (refine Below.drew ?_) | (refine Below.alloc ?_ (by first | omega | (simp; omega) | simp) _) | (refine Below.setCell ?_ (by first | omega | (simp; omega) | simp) _) | (refine below_trans ?_ (by assumption) (by first | omega | (simp; omega) | simp))))⟩
  · have ey : y = 2 := by
      rcases HY.out with ⟨ho, _⟩ | ⟨_, h⟩
      · exact absurd ⟨ho.lo, ho.hi⟩ h1
      · exact h
    subst ey
    by_cases h2 : qs.length < 1
    · have f1 : decide ((qs.length : Int) < 1) = true := by simp; omega
      clear h1
      go_enter Try.func21, Try.ntmps21
      go_wp2
      go_ret
      exact ⟨rfl, (by repeat (first | exact Below.refl _ _ | assumption | (refine below_drewN ?_ _) | (refine Below.drew ?_) | (refine Below.alloc ?_ (by first | omega | (simp; omega) | simp) _) | (refine Below.setCell ?_ (by first | omega | (simp; omega) | simp) _) | (refine below_trans ?_ (by assumption) (by first | omega | (simp; omega) | simp))))⟩
    · have f1 : decide ((qs.length : Int) < 1) = false := by simp; omega
      have f2 : decide ((4 : Int) < (qs.length : Int)) = true := by simp; omega
      clear h1
      go_enter Try.func21, Try.ntmps21
      go_wp2
      go_ret
      exact ⟨rfl, (by repeat (first | exact Below.refl _ _ | assumption | (refine below_drewN ?_ _) | (refine Below.drew ?_) | (refine Below.alloc ?_ (by first | omega | (simp; omega) | simp) _) | (refine Below.setCell ?_ (by first | omega | (simp; omega) | simp) _) | (refine below_trans ?_ (by assumption) (by first | omega | (simp; omega) | simp))))⟩
theorem xgman_any (hr : GRow w A qs) (n : Nat) (y : Int) (hy : ManE qs n y) : Calls Try.prog 17 #[gv A qs.length cap] w fun e w' => e = .returned (.tuple #[.int .i64 (n : Nat), .int .i64 y]) ∧ Below w.heap.size w w' := by
  rcases hy with ⟨hok, rfl, rfl⟩ | ⟨hok, hn, rfl⟩
  · have HC := Lib.hid fun (w : World) hr => xgcheck_any (w := w) (A := A) (qs := qs) cap hr 2 (.inr ⟨hok, rfl⟩)
    clear hok
    unfold gv at *
    go_enter Try.func17, Try.ntmps17
    go_wp2_with fail
    go_at_call 21
    refine (HC.out _ (hr.later (by repeat (first | exact Below.refl _ _ | assumption | (refine below_drewN ?_ _) | (refine Below.drew ?_) | (refine Below.alloc ?_ (by first | omega | (simp; omega) | simp) _) | (refine Below.setCell ?_ (by first | omega | (simp; omega) | simp) _) | (refine below_trans ?_ (by assumption) (by first | omega | (simp; omega) | simp)))))).mono ?_
    rintro e w1 ⟨rfl, hb_w1⟩
    obtain ⟨hc_w1, hf_w1⟩ := bcell hb_w1; have hz_w1_w_0 : w.heap.size < w1.heap.size := (by have hzz := hb_w1.size; (try simp only [World.size_alloc, World.size_setCell, World.size_drew, World.heap_drewN] at hzz); omega); have hs_w1 := hb_w1.size; (try simp only [World.size_alloc, World.size_setCell, World.size_drew, World.heap_drewN] at hs_w1)
    go_wp2
    go_ret2
    exact ⟨rfl, (by repeat (first | exact Below.refl _ _ | assumption | (refine below_drewN ?_ _) | (refine Below.drew ?_) | (refine Below.alloc ?_ (by first | omega | (simp; omega) | simp) _) | (refine Below.setCell ?_ (by first | omega | (simp; omega) | simp) _) | (refine below_trans ?_ (by assumption) (by first | omega | (simp; omega) | simp))))⟩
  · have HC := Lib.hid fun (w : World) hr => xgcheck_any (w := w) (A := A) (qs := qs) cap hr 0 (.inl ⟨hok, rfl⟩)
    have HM := Lib.hid fun (w : World) hr => xgmany_any (w := w) (A := A) (qs := qs) cap hr hok.hi (by have := hok.len; omega) n hn.symm
    clear hok hn
    unfold gv at *
    go_enter Try.func17, Try.ntmps17
    go_wp2_with fail
    go_at_call 21
    refine (HC.out _ (hr.later (by repeat (first | exact Below.refl _ _ | assumption | (refine below_drewN ?_ _) | (refine Below.drew ?_) | (refine Below.alloc ?_ (by first | omega | (simp; omega) | simp) _) | (refine Below.setCell ?_ (by first | omega | (simp; omega) | simp) _) | (refine below_trans ?_ (by assumption) (by first | omega | (simp; omega) | simp)))))).mono ?_
    rintro e w1 ⟨rfl, hb_w1⟩
    obtain ⟨hc_w1, hf_w1⟩ := bcell hb_w1; have hz_w1_w_0 : w.heap.size < w1.heap.size := (by have hzz := hb_w1.size; (try simp only [World.size_alloc, World.size_setCell, World.size_drew, World.heap_drewN] at hzz); omega); have hs_w1 := hb_w1.size; (try simp only [World.size_alloc, World.size_setCell, World.size_drew, World.heap_drewN] at hs_w1)
    have b1 : Below w.heap.size w w1 := (by repeat (first | exact Below.refl _ _ | assumption | (refine below_drewN ?_ _) | (refine Below.drew ?_) | (refine Below.alloc ?_ (by first | omega | (simp; omega) | simp) _) | (refine Below.setCell ?_ (by first | omega | (simp; omega) | simp) _) | (refine below_trans ?_ (by assumption) (by first | omega | (simp; omega) | simp))))
    go_wp2_with fail
    go_at_call 27
    refine (HM.out _ ((hr.later b1).later (by repeat (first | exact Below.refl _ _ | assumption | (refine below_drewN ?_ _) | (refine Below.drew ?_) | (refine Below.alloc ?_ (by first | omega | (simp; omega) | simp) _) | (refine Below.setCell ?_ (by first | omega | (simp; omega) | simp) _) | (refine below_trans ?_ (by assumption) (by first | omega | (simp; omega) | simp)))))).mono ?_
    rintro e w2 ⟨rfl, hb_w2⟩
    obtain ⟨hc_w2, hf_w2⟩ := bcell hb_w2; have hs_w2 := hb_w2.size; (try simp only [World.size_alloc, World.size_setCell, World.size_drew, World.heap_drewN] at hs_w2)
    go_wp2
    go_ret2
    exact ⟨rfl, (by repeat (first | exact Below.refl _ _ | assumption | (refine below_drewN ?_ _) | (refine Below.drew ?_) | (refine Below.alloc ?_ (by first | omega | (simp; omega) | simp) _) | (refine Below.setCell ?_ (by first | omega | (simp; omega) | simp) _) | (refine below_trans ?_ (by assumption) (by first | omega | (simp; omega) | simp))))⟩
end
end Go.Proofs.Ytlaladhnidcoiaa
