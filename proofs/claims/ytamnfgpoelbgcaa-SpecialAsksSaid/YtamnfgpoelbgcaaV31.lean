/- slices.Compact of words, two neighbours alike. -/
import Derived.Test.YtamnfgpoelbgcaaV30
import Derived.Test.YtamnfgpoelbgcaaV17
import Derived.Laws.IdiomCopy
namespace Go.Proofs.Ytamnfgpoelbgcaa
open Go.RowKit
set_option linter.unusedVariables false
set_option linter.unusedSimpArgs false

theorem below_setsW {B b : Nat} {a : World} (hb : B ≤ b) : ∀ (vs : List Value) (o : Nat) (w : World), Below B a w → Below B a (w.setCells b o vs)
  | [], _, _, h => h
  | v :: vs, o, w, h => below_setsW hb vs (o + 1) _ (h.setCell (p := ⟨b, o, none⟩) hb v)
theorem take_set_snoc (ys : List Int) (p : Nat) (v : Int) (hp : p < ys.length) : (ys.set p v).take (p + 1) = ys.take p ++ [v] := by
  rw [take_snoc _ p (by rw [List.length_set]; exact hp), getD_set_int _ _ _ _ hp, if_pos rfl]
  congr 1
  apply List.ext_getElem?
  intro j
  rw [List.getElem?_take, List.getElem?_take]
  split
  · rw [List.getElem?_set_ne (by omega)]
  · rfl
set_option maxHeartbeats 8000000 in
theorem ccompact_dups {w : World} {g n : Nat} (cap : Nat) {xs : List Int} (h : WI w g xs) (hn : xs.length = n) (hg : g < w.heap.size) (hcn : n ≤ cap) (hcc : n ≤ 1000000) (k0 : Nat) (hk0 : k0 + 1 < n) (hne : ∀ j, j < k0 → xs.getD j 0 ≠ xs.getD (j + 1) 0) (heq : xs.getD k0 0 = xs.getD (k0 + 1) 0) :
    Calls Try.prog 31 #[.slice (some ⟨g, 0, none⟩) n cap] w fun e w' => ∃ c', e = .returned (.slice (some ⟨g, 0, none⟩) (cmpI xs).length c') ∧ WI w' g (cmpI xs) ∧ Below g w w' := by
  have hst : xs.take (k0 + 1) = cmpI (xs.take (k0 + 2)) := by
    rw [cmp_next xs k0 (by omega), if_pos heq, cmp_same xs (k0 + 1) (by omega) (fun j hj => hne j (by omega))]
  have HST := Lib.hid hst
  have HN := Lib.hid hn
  have HNE := Lib.hid hne
  have HEQ := Lib.hid heq
  clear hn hne heq hst
  go_enter Try.func31, Try.ntmps31
  go_wp2_with fail
  go_loopw [3] (fun kk wr => ∃ k : Nat, kk = .int .i64 ((k : Int) + 1) ∧ k ≤ k0 ∧ WI wr g xs ∧ w.heap.size ≤ wr.heap.size ∧ Below w.heap.size w wr) (fun kk _ => n - (intOf kk).toNat)
  case atStart => exact ⟨0, rfl, by omega, h, (by first | omega | (simp; omega) | simp), (by repeat (first | exact Below.refl _ _ | assumption | (refine below_drewN ?_ _) | (refine Below.drew ?_) | (refine Below.alloc ?_ (by first | omega | (simp; omega) | simp) _) | (refine Below.setCell ?_ (by first | omega | (simp; omega) | simp) _) | (refine below_trans ?_ (by assumption) (by first | omega | (simp; omega) | simp))))⟩
  case round =>
    obtain ⟨k, rfl, hk, hW, hsz, hb_wr⟩ := hrel
    have hsr := hb_wr.size
    have q0 := (hW.at_ k (by rw [HN.out]; omega)).1
    have q1 := (hW.at_ (k + 1) (by rw [HN.out]; omega)).1
    have i1 : (k : Int) + 1 < (n : Int) := by omega
    have i2 : (0 : Int) ≤ (k : Int) + 1 := by omega
    have i3 : (k : Int) < (n : Int) := by omega
    have i4 : (0 : Int) ≤ (k : Int) := by omega
    have hw2 : IntKind.i64.wrap ((k : Int) + 1 - 1) = (k : Int) := by rw [IntWalk.i64_in _ (by omega)]; omega
    have hw4 : IntKind.i64.wrap (k : Int) = (k : Int) := by rw [IntWalk.i64_in _ (by omega)]
    by_cases hlt : k < k0
    · have hd := HNE.out k hlt
      generalize xs.getD k 0 = y0 at *
      generalize xs.getD (k + 1) 0 = y1 at *
      have f1 : (y1 == y0) = false := by simpa using fun e : y1 = y0 => hd e.symm
      clear hd
      go_wp2_with fail
      go_quiet (fail)
      go_wp2
      go_roundw
      case rel => exact ⟨k + 1, by go_num, by omega, hW.later (by repeat (first | exact Below.refl _ _ | assumption | (refine below_drewN ?_ _) | (refine Below.drew ?_) | (refine Below.alloc ?_ (by first | omega | (simp; omega) | simp) _) | (refine Below.setCell ?_ (by first | omega | (simp; omega) | simp) _) | (refine below_trans ?_ (by assumption) (by first | omega | (simp; omega) | simp)))) (by first | omega | (simp; omega) | simp), (by first | omega | (simp; omega) | simp), (by repeat (first | exact Below.refl _ _ | assumption | (refine below_drewN ?_ _) | (refine Below.drew ?_) | (refine Below.alloc ?_ (by first | omega | (simp; omega) | simp) _) | (refine Below.setCell ?_ (by first | omega | (simp; omega) | simp) _) | (refine below_trans ?_ (by assumption) (by first | omega | (simp; omega) | simp))))⟩
      case measure => simp [intOf]; omega
    · obtain rfl : k = k0 := by omega
      have he := HEQ.out
      generalize hy0 : xs.getD k 0 = y0 at *
      generalize hy1 : xs.getD (k + 1) 0 = y1 at *
      have f1 : (y1 == y0) = true := by simp [he]
      clear he hy0 hy1
      have i5 : (k : Int) + 1 ≤ (n : Int) := by omega
      have i6 : (k : Int) + 1 ≤ (cap : Int) := by omega
      have i7 : (n : Int) ≤ (cap : Int) := by omega
      go_wp2_with fail
      go_quiet (fail)
      go_wp2_with fail
      clear q0 q1 f1 hw2 hw4 h
      generalize hWD : wr.drewN nq = wD
      have hWd : WI wD g xs := by rw [← hWD]; exact hW.later (by repeat (first | exact Below.refl _ _ | assumption | (refine below_drewN ?_ _) | (refine Below.drew ?_) | (refine Below.alloc ?_ (by first | omega | (simp; omega) | simp) _) | (refine Below.setCell ?_ (by first | omega | (simp; omega) | simp) _) | (refine below_trans ?_ (by assumption) (by first | omega | (simp; omega) | simp)))) (by first | omega | (simp; omega) | simp)
      have hBd : Below g w wD := by rw [← hWD]; exact below_drewN (hb_wr.mono (Nat.le_of_lt hg)) _
      have hSd : w.heap.size ≤ wD.heap.size := by rw [← hWD]; simp only [World.heap_drewN]; exact hsz
      clear hW hb_wr hsz hsr hWD
      obtain ⟨L, hL⟩ : ∃ L, n - (k + 1) = L := ⟨_, rfl⟩
      have hL1 : n ≤ k + 1 + L := by omega
      have hL2 : k + 1 + L ≤ n := by omega
      rw [hL]
      clear hL
      go_loopw [3, 5] (fun kk jj wr => ∃ (p q : Nat) (ys : List Int), kk = .int .i64 (p : Nat) ∧ jj = .int .i64 ((q : Int) + 1) ∧ q + 1 ≤ L ∧ k + 1 ≤ p ∧ p ≤ k + 1 + q ∧ Hid (ys.length = n) ∧ WI wr g ys ∧ Hid (ys.take p = cmpI (xs.take (k + 1 + q + 1))) ∧ Hid (∀ j, k + 1 + q ≤ j → j < n → ys.getD j 0 = xs.getD j 0) ∧ w.heap.size ≤ wr.heap.size ∧ Below g w wr) (fun _ jj _ => L - (intOf jj).toNat)
      case atStart => exact ⟨k + 1, 0, xs, by go_num, by simp, by omega, Nat.le_refl _, by omega, HN, hWd, HST, Lib.hid (fun _ _ _ => rfl), hSd, hBd⟩
      case round =>
        clear hWd hBd hSd
        obtain ⟨p, q, ys, rfl, rfl, hq, hp1, hp2, HYN, hW, HT, HO, hsz, hb_wr⟩ := hrel
        have hgr : g < wr.heap.size := by omega
        have i8 : (p : Int) < (n : Int) := by omega
        have i9 : (0 : Int) ≤ (p : Int) := by omega
        have i10 : (p : Int) ≤ (n : Int) := by omega
        have i11 : (p : Int) ≤ (cap : Int) := by omega
        by_cases hlt : q + 1 < L
        · obtain ⟨q0, _⟩ := hW.at_ (k + 1 + q) (by rw [HYN.out]; omega)
          obtain ⟨q1, _⟩ := hW.at_ (k + 1 + (q + 1)) (by rw [HYN.out]; omega)
          obtain ⟨qp, fp⟩ := hW.at_ p (by rw [HYN.out]; omega)
          rw [HO.out (k + 1 + q) (by omega) (by omega)] at q0
          rw [HO.out (k + 1 + (q + 1)) (by omega) (by omega)] at q1
          have hc := cmp_next xs (k + 1 + q) (by rw [HN.out]; omega)
          rw [show k + 1 + q + 1 = k + 1 + (q + 1) by omega] at hc
          rw [show k + 1 + q + 2 = k + 1 + (q + 1) + 1 by omega] at hc
          generalize hy0 : xs.getD (k + 1 + q) 0 = y0 at *
          generalize hy1 : xs.getD (k + 1 + (q + 1)) 0 = y1 at *
          have HT' : Hid (ys.take p = cmpI (xs.take (k + 1 + (q + 1)))) := Lib.hid (by rw [HT.out]; rfl)
          clear hy0 hy1
          have HC := Lib.hid hc
          clear hc
          have j1 : (q : Int) + 1 < (L : Int) := by omega
          have j2 : (0 : Int) ≤ (q : Int) + 1 := by omega
          have j3 : (q : Int) < (L : Int) := by omega
          have j4 : (0 : Int) ≤ (q : Int) := by omega
          have hw2 : IntKind.i64.wrap ((q : Int) + 1 - 1) = (q : Int) := by rw [IntWalk.i64_in _ (by omega)]; omega
          have hw4 : IntKind.i64.wrap (q : Int) = (q : Int) := by rw [IntWalk.i64_in _ (by omega)]
          by_cases he : y0 = y1
          · have f1 : (y1 != y0) = false := by simp [he]
            have HC2 := Lib.hid (HC.out.trans (if_pos he))
            clear he
            go_wp2_with fail
            go_quiet (fail)
            go_wp2
            go_roundw
            case rel => exact ⟨p, q + 1, ys, rfl, by go_num, by omega, hp1, by omega, HYN, hW.later (by repeat (first | exact Below.refl _ _ | assumption | (refine below_drewN ?_ _) | (refine Below.drew ?_) | (refine Below.alloc ?_ (by first | omega | (simp; omega) | simp) _) | (refine Below.setCell ?_ (by first | omega | (simp; omega) | simp) _) | (refine below_trans ?_ (by assumption) (by first | omega | (simp; omega) | simp)))) hgr, Lib.hid (by rw [HC2.out]; exact HT'.out), Lib.hid (fun j h1 h2 => HO.out j (by omega) h2), (by first | omega | (simp; omega) | simp), (by repeat (first | exact Below.refl _ _ | assumption | (refine below_drewN ?_ _) | (refine Below.drew ?_) | (refine Below.alloc ?_ (by first | omega | (simp; omega) | simp) _) | (refine Below.setCell ?_ (by first | omega | (simp; omega) | simp) _) | (refine below_trans ?_ (by assumption) (by first | omega | (simp; omega) | simp))))⟩
            case measure => simp [intOf]; omega
          · have f1 : (y1 != y0) = true := by simpa using fun e : y1 = y0 => he e.symm
            have HC2 := Lib.hid (HC.out.trans (if_neg he))
            clear he
            go_wp2_with fail
            go_quiet (fail)
            go_wp2
            go_roundw
            case rel =>
              refine ⟨p + 1, q + 1, ys.set p y1, by go_num, by go_num, by omega, by omega, by omega, Lib.hid (by rw [List.length_set]; exact HYN.out), WI.set (hW.later (by repeat (first | exact Below.refl _ _ | assumption | (refine below_drewN ?_ _) | (refine Below.drew ?_) | (refine Below.alloc ?_ (by first | omega | (simp; omega) | simp) _) | (refine Below.setCell ?_ (by first | omega | (simp; omega) | simp) _) | (refine below_trans ?_ (by assumption) (by first | omega | (simp; omega) | simp)))) hgr) p y1 (by rw [HYN.out]; omega), Lib.hid ?_, Lib.hid ?_, (by first | omega | (simp; omega) | simp), (by repeat (first | exact Below.refl _ _ | assumption | (refine below_drewN ?_ _) | (refine Below.drew ?_) | (refine Below.alloc ?_ (by first | omega | (simp; omega) | simp) _) | (refine Below.setCell ?_ (by first | omega | (simp; omega) | simp) _) | (refine below_trans ?_ (by assumption) (by first | omega | (simp; omega) | simp))))⟩
              · rw [HC2.out, ← HT'.out, take_set_snoc _ _ _ (by rw [HYN.out]; omega)]
              · intro j h1 h2
                rw [getD_set_int _ _ _ _ (by rw [HYN.out]; omega), if_neg (by omega)]
                exact HO.out j (by omega) h2
            case measure => simp [intOf]; omega
        · have hT : ys.take p = cmpI xs := by
            rw [HT.out, show k + 1 + q + 1 = xs.length by rw [HN.out]; omega, List.take_length]
          have HTT := Lib.hid hT
          have hlen : (cmpI xs).length = p := by rw [← hT, List.length_take, HYN.out]; omega
          have HLEN := Lib.hid hlen
          clear hT hlen
          have hcl : ∀ m c ty, m = n - p → (Builtin.clear_ #[35] ty #[.slice (some ⟨g, p, none⟩) m c]).run Try.prog wr = .ok (.tuple #[]) (wr.setCells g p (List.replicate m (.int .u64 0))) := fun m c ty hm => by
            have := Lib.run_clear_slice wr 35 23 ty (.int .u64 0) Try.underlying35 zero_u64V rfl rfl g p m c (by omega) (fun j hj => by rw [(hW.at_ (p + j) (by rw [HYN.out]; omega)).1]; rfl) (fun j hj => (hW.at_ (p + j) (by rw [HYN.out]; omega)).2)
            exact this
          go_wp2_with (rw [hcl _ _ _ rfl])
          go_ret
          refine ⟨_, by rw [HLEN.out]; rfl, ⟨fun i hi => ?_⟩, ?_⟩
          · rw [HLEN.out] at hi
            obtain ⟨c, f⟩ := hW.at_ i (by rw [HYN.out]; omega)
            rw [World.frozen?_setCells, World.cell?_setCells_out g _ _ _ _ (fun _ _ => .inl hi), c, ← HTT.out]
            refine ⟨?_, f⟩
            rw [List.getD_eq_getElem?_getD, List.getD_eq_getElem?_getD, List.getElem?_take_of_lt hi]
          · exact below_setsW (Nat.le_refl _) _ _ _ hb_wr
end Go.Proofs.Ytamnfgpoelbgcaa
