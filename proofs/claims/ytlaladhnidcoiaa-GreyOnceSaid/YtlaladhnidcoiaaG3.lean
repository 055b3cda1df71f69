/- Contract of grey.view. -/
import Derived.Test.YtlaladhnidcoiaaG2
namespace Go.Proofs.Ytlaladhnidcoiaa
open Go.RowKit
set_option linter.unusedVariables false
set_option linter.unusedSimpArgs false

/-- addresses that may stand together -/
structure GoodP (ks : List Nat) : Prop where
  nz : ∀ a ∈ ks, a ≠ 0
  nd : ks.Nodup
  len : ks.length ≤ 16384
theorem goodP_nil : GoodP [] := ⟨by simp, by simp, by simp⟩
theorem GoodP.snoc {ks : List Nat} {a : Nat} (h : GoodP ks) (he : addErr ks a = 0) : GoodP (ks ++ [a]) := by
  obtain ⟨e1, e2, e3⟩ := addErr_zero.1 he
  refine ⟨fun b hb => ?_, nodup_snoc.2 ⟨h.nd, e2⟩, by simp only [List.length_append, List.length_singleton]; have := h.len; omega⟩
  rw [List.mem_append, List.mem_singleton] at hb
  rcases hb with hb | rfl
  · exact h.nz b hb
  · exact e1
/-- what stands in right queues can be added behind what stands ahead of it -/
theorem okG_next {qs : List (List Nat)} (h : OkG qs) {k j : Nat} (hk : k < qs.length) (hj : j < (nq qs k).length) : addErr ((qs.take k).flatten ++ (nq qs k).take j) ((nq qs k).getD j 0) = 0 := by
  have hsp := flat_split qs k hk
  have ht := take_next (nq qs k) j hj
  have e : qs.flatten = ((qs.take k).flatten ++ (nq qs k).take j ++ [(nq qs k).getD j 0]) ++ ((nq qs k).drop (j + 1) ++ (qs.drop (k + 1)).flatten) := by
    rw [hsp, List.append_assoc _ _ [_], ← ht, List.append_assoc (qs.take k).flatten (nq qs k), List.append_assoc (qs.take k).flatten ((nq qs k).take (j + 1)), ← List.append_assoc ((nq qs k).take (j + 1)), List.take_append_drop]
  have hnd := h.nd
  have hln := h.len
  have hnz := h.nz
  rw [e] at hnd hln hnz
  rw [addErr_zero]
  refine ⟨hnz _ (by simp), (nodup_snoc.1 (List.nodup_append.1 hnd).1).2, ?_⟩
  simp only [List.length_append, List.length_singleton] at hln ⊢
  omega
def ViewG (qs : List (List Nat)) (w : World) (e : Ending) (w' : World) : Prop :=
  ((OkG qs ∧ ∃ M, e = .returned (.tuple #[.map (some M), .int .i64 0]) ∧ w.heap.size ≤ M ∧ SetM w' M qs.flatten) ∨ (¬ OkG qs ∧ e = .returned (.tuple #[.map none, .int .i64 2]))) ∧ Below w.heap.size w w'
section
variable {w : World} {A : Option Addr} {qs : List (List Nat)} (cap : Nat)
theorem sum_next (qs : List (List Nat)) (k : Nat) (hk : k < qs.length) : ((qs.take (k + 1)).flatten).length = ((qs.take k).flatten).length + (nq qs k).length := by rw [flat_next qs k hk, List.length_append]
set_option maxHeartbeats 4000000 in
theorem gview_any (hr : GRow w A qs) : Calls Try.prog 23 #[gv A qs.length cap] w fun e w' => ViewG qs w e w' := by
  unfold ViewG gv
  obtain ⟨tE, hmt, _⟩ := zeroU
  have hmm : ∀ (n : Int) (w : World), (Instr.makeMap 47 (some (.int .i64 n))).run Try.prog w = .ok (.map (some w.heap.size)) (w.alloc (.map #[] 0)) := fun n w => by
    simp [Instr.makeMap, run_underlying hmt, asInt, Result.andThen]
    rfl
  have hlim := hr.lim
  by_cases h1 : 1 ≤ qs.length ∧ qs.length ≤ 4
  · have f1 : decide ((qs.length : Int) < 1) = false := by simp; omega
    have f2 : decide ((4 : Int) < (qs.length : Int)) = false := by simp; omega
    obtain ⟨n, hn⟩ : ∃ n, Hid (qs.length = n) := ⟨_, rfl⟩
    have hlo : 1 ≤ n := by have := hn.out; omega
    have hhi : n ≤ 4 := by have := hn.out; omega
    rw [hn.out] at f1 f2 ⊢
    clear h1
    go_enter Try.func23, Try.ntmps23
    go_wp2_with fail
    go_loopw [4, 25] (fun ss ii wr => ∃ k : Nat, ii = .int .i64 (k : Nat) ∧ k ≤ n ∧ ∃ m : Nat, Hid (((qs.take k).flatten).length = m) ∧ m ≤ k * 17592186044416 ∧ ss = .int .i64 (m : Nat) ∧ w.heap.size + 1 ≤ wr.heap.size ∧ Bx wr w.heap.size (.slice A n cap) ∧ Below w.heap.size w wr) (fun _ ii _ => n - (intOf ii).toNat)
    case atStart => exact ⟨0, rfl, Nat.zero_le _, 0, Lib.hid rfl, by omega, rfl, by simp, Bx.new w _ _, (by repeat (first | exact Below.refl _ _ | assumption | (refine below_drewN ?_ _) | (refine Below.drew ?_) | (refine Below.alloc ?_ (by first | omega | (simp; omega) | simp) _) | (refine Below.setCell ?_ (by first | omega | (simp; omega) | simp) _) | (refine below_trans ?_ (by assumption) (by first | omega | (simp; omega) | simp))))⟩
    case round =>
      obtain ⟨k, rfl, hk, m, hm, hml, rfl, hsz, HB, hb_wr⟩ := hrel
      have hsr := hb_wr.size
      by_cases hlt : k < n
      · obtain ⟨b, off, hA, hbb, hc⟩ := (hr.later hb_wr).at_ (by have := hn.out; omega)
        obtain ⟨Ai, ci, c1, _⟩ := hc k (by have := hn.out; omega)
        have hnx := sum_next qs k (by have := hn.out; omega)
        have hq := hlim.each k
        rw [hm.out] at hnx
        have HX := Lib.hid hnx
        subst hA
        clear hc hnx
        have i1 : (k : Int) < (n : Int) := by omega
        have i2 : (0 : Int) ≤ (k : Int) := by omega
        generalize (nq qs k).length = q at *
        go_wp2
        go_roundw
        case rel => exact ⟨k + 1, by go_num, by omega, m + q, HX, by omega, by go_num, hsz, HB, (by repeat (first | exact Below.refl _ _ | assumption | (refine below_drewN ?_ _) | (refine Below.drew ?_) | (refine Below.alloc ?_ (by first | omega | (simp; omega) | simp) _) | (refine Below.setCell ?_ (by first | omega | (simp; omega) | simp) _) | (refine below_trans ?_ (by assumption) (by first | omega | (simp; omega) | simp))))⟩
        case measure => simp [intOf]; omega
      · obtain rfl : k = n := by omega
        have hall : qs.flatten.length = m := by rw [← hm.out, ← hn.out, List.take_length]
        have HALL := Lib.hid hall
        obtain ⟨hbc, hbf⟩ := HB
        clear hall hm
        by_cases h2 : m ≤ 16384
        · have f3 : decide ((16384 : Int) < (m : Int)) = false := by simp; omega
          have hbm : Below w.heap.size w (wr.alloc (.map #[] 0)) := (by repeat (first | exact Below.refl _ _ | assumption | (refine below_drewN ?_ _) | (refine Below.drew ?_) | (refine Below.alloc ?_ (by first | omega | (simp; omega) | simp) _) | (refine Below.setCell ?_ (by first | omega | (simp; omega) | simp) _) | (refine below_trans ?_ (by assumption) (by first | omega | (simp; omega) | simp))))
          have hs0 : SetM (wr.alloc (.map #[] 0)) wr.heap.size [] := World.ownsMap_made wr Try.prog 30 (unitElem (H := Unit))
          have hM0 : w.heap.size ≤ wr.heap.size := hsr
          have hb0 : w.heap.size < wr.heap.size := by omega
          go_wp2_with fail
          generalize (wr.alloc (.map #[] 0)) = w0 at *
          generalize wr.heap.size = M at *
          go_loopw [41] (fun ii wr => ∃ i : Nat, ii = .int .i64 (i : Nat) ∧ i ≤ k ∧ Hid (GoodP (qs.take i).flatten) ∧ SetM wr M (qs.take i).flatten ∧ Below w.heap.size w wr) (fun ii _ => k - (intOf ii).toNat)
          case atStart => exact ⟨0, rfl, Nat.zero_le _, Lib.hid goodP_nil, hs0, hbm⟩
          case round =>
            clear hb_wr hs0 hbm hbc hbf hsz hsr
            generalize wr = wA at *
            obtain ⟨i, rfl, hi, hG, hS, hb_wr⟩ := hrel
            have hsr := hb_wr.size
            by_cases hlt2 : i < k
            · obtain ⟨b, off, hA, hbb, hc⟩ := hr.at_ (by have := hn.out; omega)
              obtain ⟨Ai, ci, c1, r1, _⟩ := hc i (by have := hn.out; omega)
              have hq := hlim.each i
              have c1 := (hb_wr.cell (p := ⟨b, off + i, none⟩) hbb).trans c1
              subst hA
              have i1 : (i : Int) < (k : Int) := by omega
              have i2 : (0 : Int) ≤ (i : Int) := by omega
              obtain ⟨q, hQ⟩ : ∃ q, Hid (nq qs i = q) := ⟨_, rfl⟩
              have HNX : Hid (∀ j, j < q.length → OkG qs → addErr ((qs.take i).flatten ++ q.take j) (q.getD j 0) = 0) := Lib.hid (fun j hj ho => by rw [← hQ.out] at hj ⊢; exact okG_next ho (by have := hn.out; omega) hj)
              have HFN : Hid ((qs.take (i + 1)).flatten = (qs.take i).flatten ++ q) := Lib.hid (by rw [← hQ.out]; exact flat_next qs i (by have := hn.out; omega))
              rw [hQ.out] at c1 r1 hq
              generalize (qs.take i).flatten = P at *
              clear hc
              go_wp2_with fail
              go_loopw [47] (fun jj wr => ∃ j : Nat, jj = .int .i64 (j : Nat) ∧ j ≤ q.length ∧ Hid (GoodP (P ++ q.take j)) ∧ SetM wr M (P ++ q.take j) ∧ Below w.heap.size w wr) (fun jj _ => q.length - (intOf jj).toNat)
              case atStart => exact ⟨0, rfl, Nat.zero_le _, by simpa using hG, by simpa using hS, hb_wr⟩
              case round =>
                clear hb_wr hS hG
                generalize wr = wB at *
                obtain ⟨j, rfl, hj, hG, hS, hb_wr⟩ := hrel
                have hsr3 := hb_wr.size
                have hMl := hS.lt
                by_cases hlt3 : j < q.length
                · have hr3 : Row wB wB.heap.size Ai q := r1.later hb_wr
                  obtain ⟨b3, o3, rfl, hb3, c3⟩ := hr3.cellAt (k := j) hlt3
                  have hxw := r1.words.at_ j
                  have HN3 := Lib.hid (HNX.out j hlt3)
                  have HT := Lib.hid (take_next q j hlt3)
                  have j1 : (j : Int) < (q.length : Int) := by omega
                  have j2 : (0 : Int) ≤ (j : Int) := by omega
                  obtain ⟨x, hx⟩ : ∃ x, Hid (q.getD j 0 = x) := ⟨_, rfl⟩
                  rw [hx.out] at c3 hxw
                  have HA := Lib.hid fun y hy => madd_any (w := wB) hS hG.out.nd hG.out.len x hxw y hy
                  by_cases he : addErr (P ++ q.take j) x = 0
                  · have HG4 : Hid (GoodP (P ++ q.take (j + 1))) := Lib.hid (by rw [HT.out, hx.out, ← List.append_assoc]; exact hG.out.snoc he)
                    have HE := Lib.hid he
                    clear he hS
                    go_wp2_with fail
                    go_at_call 26
                    refine (HA.out 0 HE.out).mono ?_
                    rintro e w4 ⟨rfl, hS4, hg4⟩
                    have hs4 := hg4.size
                    have b4 : Below w.heap.size w w4 := hb_wr.grown hg4 hsr3 (fun k hk => by cases hk; exact hM0)
                    rw [if_pos rfl, List.append_assoc, ← hx.out, ← HT.out] at hS4
                    go_wp2
                    go_roundw
                    case rel => exact ⟨j + 1, by go_num, by omega, HG4.out, hS4, b4⟩
                    case measure => simp [intOf]; omega
                  · have hbad : Hid (¬ OkG qs) := Lib.hid (fun ho => he (by have := HN3.out ho; rwa [hx.out] at this))
                    obtain ⟨y, HY⟩ : ∃ y, Hid (addErr (P ++ q.take j) x = y) := ⟨_, rfl⟩
                    have hy0 : (y != 0) = true := by rw [← HY.out]; simpa using he
                    clear he hS
                    go_wp2_with fail
                    go_at_call 26
                    refine (HA.out y HY.out).mono ?_
                    rintro e w4 ⟨rfl, hS4, hg4⟩
                    have b4 : Below w.heap.size w w4 := hb_wr.grown hg4 hsr3 (fun k hk => by cases hk; exact hM0)
                    go_wp2
                    go_ret2
                    exact ⟨.inr ⟨hbad.out, rfl⟩, b4⟩
                · obtain rfl : j = q.length := by omega
                  rw [List.take_length] at hG hS
                  rw [← HFN.out] at hG hS
                  go_wp2
                  go_roundw
                  case rel => exact ⟨i + 1, by go_num, by omega, hG, hS, hb_wr⟩
                  case measure => simp [intOf]; omega
            · obtain rfl : i = k := by omega
              have hfl : (qs.take i).flatten = qs.flatten := by rw [← hn.out, List.take_length]
              rw [hfl] at hG hS
              have HOK : Hid (OkG qs) := Lib.hid ⟨by have := hn.out; omega, by have := hn.out; omega, hG.out.len, hG.out.nz, hG.out.nd⟩
              go_wp2
              go_ret2
              exact ⟨.inl ⟨HOK.out, M, rfl, hM0, hS⟩, hb_wr⟩
        · have f3 : decide ((16384 : Int) < (m : Int)) = true := by simp; omega
          have hbad : Hid (¬ OkG qs) := Lib.hid (fun ho => h2 (by rw [← HALL.out]; exact ho.len))
          go_wp2
          go_ret2
          exact ⟨.inr ⟨hbad.out, rfl⟩, (by repeat (first | exact Below.refl _ _ | assumption | (refine below_drewN ?_ _) | (refine Below.drew ?_) | (refine Below.alloc ?_ (by first | omega | (simp; omega) | simp) _) | (refine Below.setCell ?_ (by first | omega | (simp; omega) | simp) _) | (refine below_trans ?_ (by assumption) (by first | omega | (simp; omega) | simp))))⟩
  · have hbad : Hid (¬ OkG qs) := Lib.hid (fun ho => h1 ⟨ho.lo, ho.hi⟩)
    by_cases h2 : qs.length < 1
    · have f1 : decide ((qs.length : Int) < 1) = true := by simp; omega
      clear h1
      go_enter Try.func23, Try.ntmps23
      go_wp2
      go_ret2
      exact ⟨.inr ⟨hbad.out, rfl⟩, (by repeat (first | exact Below.refl _ _ | assumption | (refine below_drewN ?_ _) | (refine Below.drew ?_) | (refine Below.alloc ?_ (by first | omega | (simp; omega) | simp) _) | (refine Below.setCell ?_ (by first | omega | (simp; omega) | simp) _) | (refine below_trans ?_ (by assumption) (by first | omega | (simp; omega) | simp))))⟩
    · have f1 : decide ((qs.length : Int) < 1) = false := by simp; omega
      have f2 : decide ((4 : Int) < (qs.length : Int)) = true := by simp; omega
      clear h1
      go_enter Try.func23, Try.ntmps23
      go_wp2
      go_ret2
      exact ⟨.inr ⟨hbad.out, rfl⟩, (by repeat (first | exact Below.refl _ _ | assumption | (refine below_drewN ?_ _) | (refine Below.drew ?_) | (refine Below.alloc ?_ (by first | omega | (simp; omega) | simp) _) | (refine Below.setCell ?_ (by first | omega | (simp; omega) | simp) _) | (refine below_trans ?_ (by assumption) (by first | omega | (simp; omega) | simp))))⟩
end
end Go.Proofs.Ytlaladhnidcoiaa
