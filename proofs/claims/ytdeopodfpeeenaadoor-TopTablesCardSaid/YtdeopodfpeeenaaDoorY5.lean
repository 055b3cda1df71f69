/- Contracts of package ephem: used, sound. -/
import Derived.Test.YtdeopodfpeeenaaDoorY4
namespace Go.Proofs.YtdeopodfpeeenaaDoor
open Go.RowKit
set_option linter.unusedVariables false
set_option linter.unusedSimpArgs false

theorem enews {W : World} {b : Nat} {s : Es} (h : Ep3 W b 0 s) (j : Nat) (u : Value) (hj : (ecc s)[j]? = some u) : W.cell? ((⟨b, 0, none⟩ : Addr).add j) = some u := by
  rw [add_form]
  have hlt : j < 3 := (List.getElem?_eq_some_iff.1 hj).1
  obtain ⟨c0, c1, c2⟩ := h
  obtain rfl | rfl | rfl : j = 0 ∨ j = 1 ∨ j = 2 := by omega
  · simp only [ecc, List.getElem?_cons_zero, Option.some.injEq] at hj; rw [← hj]; exact c0
  · simp only [ecc, List.getElem?_cons_succ, List.getElem?_cons_zero, Option.some.injEq] at hj; rw [← hj]; exact c1
  · simp only [ecc, List.getElem?_cons_succ, List.getElem?_cons_zero, Option.some.injEq] at hj; rw [← hj]; exact c2
theorem ep3_new (W : World) (s : Es) (t : TypeId) : Ep3 (W.alloc (.cells #[.int .u8 (s.s : Nat), .int .u64 (s.k : Nat), .int .u64 (s.v : Nat)] t)) W.heap.size 0 s := by
  constructor <;> simp [go_sem]
theorem eflat_snoc (l : List Es) (s : Es) : eflat (l ++ [s]) = eflat l ++ ecc s := by rw [eflat_append]; simp [eflat]
section
variable {w : World} {A : Option Addr} {l : List Es} (cap : Nat)
set_option maxHeartbeats 1000000 in
theorem eused_any (hr : ERow w w.heap.size A l) (hl : l.length ≤ 5864062014805) :
    Calls Tryd.prog 37 #[wrk A l.length cap] w fun e w' => UsedE w l e w' := by
  obtain ⟨i0, hi, hz0, hz1, hz2⟩ := info_parts info_es
  unfold wrk UsedE
  go_enter Tryd.func37, Tryd.ntmps37
  go_wp2_with fail
  go_loopw [3, 10] (fun oo ii wr => ∃ k : Nat, ii = .int .i64 (k : Nat) ∧ k ≤ l.length ∧ ∃ (ys : List Es) (n : Nat) (Ac : Option Addr) (capc : Nat), Hid (ys = (l.take k).filter (fun s => s.s == 1)) ∧ Hid (ys.length = n) ∧ n ≤ k ∧ oo = .slice Ac n capc ∧ wr.ownsRow w.heap.size 58 3 (.slice Ac n capc) n (eflat ys) ∧ w.heap.size ≤ wr.heap.size ∧ Below w.heap.size w wr) (fun oo ii _ => l.length - (intOf ii).toNat)
  case atStart => exact ⟨0, rfl, Nat.zero_le _, [], 0, none, 0, Lib.hid rfl, Lib.hid rfl, Nat.le_refl _, rfl, World.ownsRow_nil _ _ _ _, (by first | omega | (simp; omega) | simp), (by repeat (first | exact Below.refl _ _ | assumption | (refine below_drewN ?_ _) | (refine Below.drew ?_) | (refine Below.alloc ?_ (by first | omega | (simp; omega) | simp) _) | (refine Below.setCell ?_ (by first | omega | (simp; omega) | simp) _) | (refine below_trans ?_ (by assumption) (by first | omega | (simp; omega) | simp))))⟩
  case round =>
    obtain ⟨k, rfl, hk, ys, n, Ac, capc, hys, hyn, hnk, rfl, oC, hsz, hb_wr⟩ := hrel
    have hsr := hb_wr.size
    by_cases hlt : k < l.length
    · obtain ⟨b, off, rfl, hbb, hc⟩ := (hr.later hb_wr).at_ (by omega)
      obtain ⟨c0, c1, c2⟩ := hc k hlt
      have hF := filt_take l k hlt
      obtain ⟨d, hd⟩ : ∃ d, Hid (nthE l k = d) := ⟨_, rfl⟩
      rw [hd.out] at c0 c1 c2 hF
      have HS3 := Lib.hid (fun (W : World) (t : TypeId) => ep3_new W d t)
      have HV := Lib.hid (eflat_snoc ys d)
      have i1 : (k : Int) < (l.length : Int) := by omega
      have i2 : (0 : Int) ≤ (k : Int) := by omega
      clear hc
      obtain ⟨ss, sk, sv⟩ := d
      simp only at c0 c1 c2
      by_cases hs : ss = 1
      · subst hs
        have HF : Hid (ys ++ [(⟨1, sk, sv⟩ : Es)] = (l.take (k + 1)).filter (fun s => s.s == 1)) := Lib.hid (by rw [hF, hys.out, if_pos rfl])
        have HL : Hid ((ys ++ [(⟨1, sk, sv⟩ : Es)]).length = n + 1) := Lib.hid (by rw [List.length_append, hyn.out]; rfl)
        clear hF
        go_wp2_with (at_builtin; refine wpList_append_lies _ ?_ (.tmp 17) (.tmp 19) 24 ?_ w.heap.size 58 i0 _ 3 24 Tryd.underlying24 hi hz0 hz1 hz2 rfl (by omega) (.slice Ac n capc) n (eflat ys) ?_ ((oC.alloc _).alloc _) ⟨wr.heap.size + 1, 0, none⟩ 1 1 [.int .u8 (1 : Nat), .int .u64 (sk : Nat), .int .u64 (sv : Nat)] ?_ (by simp) ?_ (by simp [Value.oneCell']) (by omega) (by unfold maxLen; omega) (by omega) (by first | omega | (simp; omega) | simp) _ rfl ?_; rfl; rfl; rfl; rfl; (exact fun j u hj => (by have h9 := enews (HS3.out (wr.alloc (.cells #[.int .u8 (1 : Nat), .int .u64 (sk : Nat), .int .u64 (sv : Nat)] 58)) 58) j u hj; rwa [World.size_alloc] at h9)); intro g cap7 w7 hown7 hg7 hat7 hlt7; have hb_w7 : Below w.heap.size _ w7 := (Below.refl _ _).grown hg7 (by first | omega | (simp; omega) | simp) (fun b hb => oC.lt b hb |>.1); have hs7 := hb_w7.size; (try simp only [World.size_alloc] at hs7))
        go_roundw
        case rel => exact ⟨k + 1, by go_num, by omega, ys ++ [(⟨1, sk, sv⟩ : Es)], n + 1, some ⟨g, 0, none⟩, cap7, HF, HL, by omega, rfl, by rw [HV.out]; exact hown7, (by first | omega | (simp; omega) | simp), (by repeat (first | exact Below.refl _ _ | assumption | (refine below_drewN ?_ _) | (refine Below.drew ?_) | (refine Below.alloc ?_ (by first | omega | (simp; omega) | simp) _) | (refine Below.setCell ?_ (by first | omega | (simp; omega) | simp) _) | (refine below_trans ?_ (by assumption) (by first | omega | (simp; omega) | simp))))⟩
        case measure => simp [intOf]; omega
      · have f1 : ((ss : Int) == 1) = false := by simp; omega
        have HF : Hid (ys = (l.take (k + 1)).filter (fun s => s.s == 1)) := Lib.hid (by rw [hF, hys.out, if_neg hs, List.append_nil])
        clear hF hs
        go_wp2
        go_roundw
        case rel => exact ⟨k + 1, by go_num, by omega, ys, n, Ac, capc, HF, hyn, by omega, rfl, (oC.alloc _), (by first | omega | (simp; omega) | simp), (by repeat (first | exact Below.refl _ _ | assumption | (refine below_drewN ?_ _) | (refine Below.drew ?_) | (refine Below.alloc ?_ (by first | omega | (simp; omega) | simp) _) | (refine Below.setCell ?_ (by first | omega | (simp; omega) | simp) _) | (refine below_trans ?_ (by assumption) (by first | omega | (simp; omega) | simp))))⟩
        case measure => simp [intOf]; omega
    · obtain rfl : k = l.length := by omega
      have e : ys = l.filter (fun s => s.s == 1) := by rw [hys.out, List.take_length]
      have hyn' := hyn.out
      subst hyn'
      rw [e] at oC
      have HE : Hid (ys.length = (l.filter (fun s => s.s == 1)).length) := Lib.hid (by rw [e])
      clear e
      go_wp2
      go_ret
      exact ⟨Ac, capc, by rw [← HE.out]; rfl, by unfold OwnsE; exact oC, (by repeat (first | exact Below.refl _ _ | assumption | (refine below_drewN ?_ _) | (refine Below.drew ?_) | (refine Below.alloc ?_ (by first | omega | (simp; omega) | simp) _) | (refine Below.setCell ?_ (by first | omega | (simp; omega) | simp) _) | (refine below_trans ?_ (by assumption) (by first | omega | (simp; omega) | simp))))⟩
set_option maxHeartbeats 2000000 in
theorem esound_any (hT : Tz w) (hr : ERow w w.heap.size A l) (hz : Sz l.length) (r : Bool) (hR : r = true ↔ ∀ i, i < l.length → okS l i) :
    Calls Tryd.prog 30 #[wrk A l.length cap] w fun e w' => e = .returned (.bool r) ∧ Below w.heap.size w w' := by
  have HR := Lib.hid hR
  have HF := Lib.hid fun (w : World) hT hr key => efind_any (w := w) (A := A) (l := l) cap key hT hr (.inr hz)
  have hl64 := hz.le
  clear hR hz
  unfold wrk at *
  go_enter Tryd.func30, Tryd.ntmps30
  go_wp2_with fail
  go_loopw [9] (fun ii wr => ∃ k : Nat, ii = .int .i64 (k : Nat) ∧ k ≤ l.length ∧ Hid (∀ j, j < k → okS l j) ∧ w.heap.size + 1 ≤ wr.heap.size ∧ wr.cell? ⟨w.heap.size, 0, none⟩ = some (.slice A l.length cap) ∧ Below w.heap.size w wr) (fun ii _ => l.length - (intOf ii).toNat)
  case atStart => exact ⟨0, rfl, Nat.zero_le _, Lib.hid (fun j hj => by omega), (by first | omega | (simp; omega) | simp), by simp [go_sem], (by repeat (first | exact Below.refl _ _ | assumption | (refine below_drewN ?_ _) | (refine Below.drew ?_) | (refine Below.alloc ?_ (by first | omega | (simp; omega) | simp) _) | (refine Below.setCell ?_ (by first | omega | (simp; omega) | simp) _) | (refine below_trans ?_ (by assumption) (by first | omega | (simp; omega) | simp))))⟩
  case round =>
    obtain ⟨k, rfl, hk, hA, hsz, kb, hb_wr⟩ := hrel
    have hsr := hb_wr.size
    have hTr := hT.below hT.lt hb_wr
    have hz0 : w.heap.size < wr.heap.size := by omega
    by_cases hlt : k < l.length
    · have hrw := hr.later hb_wr
      obtain ⟨b, off, rfl, hbb, hc⟩ := hrw.at_ (by omega)
      obtain ⟨c0, c1, c2⟩ := hc k hlt
      have i1 : (k : Int) < (l.length : Int) := by omega
      have i2 : (0 : Int) ≤ (k : Int) := by omega
      have HY : okS l k → Hid (∀ j, j < k + 1 → okS l j) := fun h => Lib.hid fun j hj => by
        by_cases e : j = k
        · rw [e]; exact h
        · exact hA.out j (by omega)
      have HN : ¬ okS l k → r = false := fun h => by
        cases hr0 : r
        · rfl
        · exact absurd (HR.out.1 hr0 k hlt) h
      unfold okS at HY HN
      generalize nthE l k = s at *
      obtain ⟨ss, sk, sv⟩ := s
      simp only at c0 c1 c2 HY HN
      clear hc
      by_cases h1 : ss = 1
      · subst h1
        by_cases hk0 : sk = 0
        · obtain rfl : r = false := HN (by rintro (⟨_, h, _⟩ | ⟨h, _⟩); exact h hk0; omega)
          subst hk0
          clear HY HN
          go_wp2
          go_ret
          exact ⟨rfl, (by repeat (first | exact Below.refl _ _ | assumption | (refine below_drewN ?_ _) | (refine Below.drew ?_) | (refine Below.alloc ?_ (by first | omega | (simp; omega) | simp) _) | (refine Below.setCell ?_ (by first | omega | (simp; omega) | simp) _) | (refine below_trans ?_ (by assumption) (by first | omega | (simp; omega) | simp))))⟩
        · have f1 : ((sk : Int) == 0) = false := by simp; omega
          have HFK := Lib.hid fun w hT hr => HF.out w hT hr sk
          by_cases hf : fd l sk = k
          · have HY2 := HY (.inl ⟨rfl, hk0, hf⟩)
            rw [hf, toI_lt hlt] at HFK
            have f2 : ((k : Int) != (k : Int)) = false := by simp
            clear HY HN hk0 hf
            go_wp2_with fail
            go_at_call 17
            refine (HFK.out _ (hTr.later (by repeat (first | exact Below.refl _ _ | assumption | (refine below_drewN ?_ _) | (refine Below.drew ?_) | (refine Below.alloc ?_ (by first | omega | (simp; omega) | simp) _) | (refine Below.setCell ?_ (by first | omega | (simp; omega) | simp) _) | (refine below_trans ?_ (by assumption) (by first | omega | (simp; omega) | simp))))) (hrw.later (by repeat (first | exact Below.refl _ _ | assumption | (refine below_drewN ?_ _) | (refine Below.drew ?_) | (refine Below.alloc ?_ (by first | omega | (simp; omega) | simp) _) | (refine Below.setCell ?_ (by first | omega | (simp; omega) | simp) _) | (refine below_trans ?_ (by assumption) (by first | omega | (simp; omega) | simp)))))).mono ?_
            rintro e w2 ⟨rfl, hb_w2⟩
            obtain ⟨hc_w2, hf_w2⟩ := bcell hb_w2; have hz_w2_wr_0 : wr.heap.size < w2.heap.size := (by have hzz := hb_w2.size; (try simp only [World.size_alloc, World.size_setCell, World.size_drew, World.heap_drewN] at hzz); omega); have hs_w2 := hb_w2.size; (try simp only [World.size_alloc, World.size_setCell, World.size_drew, World.heap_drewN] at hs_w2)
            have kb2 : w2.cell? ⟨w.heap.size, 0, none⟩ = some (.slice (some ⟨b, off, none⟩) l.length cap) := (hc_w2 _ _ (by first | omega | (simp; omega) | simp)).trans (by first | exact kb | (exact (World.cell?_alloc_lt _ _ ⟨_, _, _⟩ (by first | omega | (simp; omega) | simp)).trans kb) | (exact (World.cell?_alloc_lt _ _ ⟨_, _, _⟩ (by first | omega | (simp; omega) | simp)).trans ((World.cell?_alloc_lt _ _ ⟨_, _, _⟩ (by first | omega | (simp; omega) | simp)).trans kb)) | (simp [go_sem, kb]; done))
            clear hc_w2 hf_w2
            go_wp2
            go_roundw
            case rel => exact ⟨k + 1, by go_num, by omega, HY2, (by first | omega | (simp; omega) | simp), kb2, (by repeat (first | exact Below.refl _ _ | assumption | (refine below_drewN ?_ _) | (refine Below.drew ?_) | (refine Below.alloc ?_ (by first | omega | (simp; omega) | simp) _) | (refine Below.setCell ?_ (by first | omega | (simp; omega) | simp) _) | (refine below_trans ?_ (by assumption) (by first | omega | (simp; omega) | simp))))⟩
            case measure => simp [intOf]; omega
          · obtain rfl : r = false := HN (by rintro (⟨_, _, h⟩ | ⟨h, _⟩); exact hf h; omega)
            have f2 : (toI l.length (fd l sk) != (k : Int)) = true := by
              unfold toI
              split
              · simp; omega
              · simp
            generalize toI l.length (fd l sk) = t at *
            clear HY HN hk0 hf
            go_wp2_with fail
            go_at_call 17
            refine (HFK.out _ (hTr.later (by repeat (first | exact Below.refl _ _ | assumption | (refine below_drewN ?_ _) | (refine Below.drew ?_) | (refine Below.alloc ?_ (by first | omega | (simp; omega) | simp) _) | (refine Below.setCell ?_ (by first | omega | (simp; omega) | simp) _) | (refine below_trans ?_ (by assumption) (by first | omega | (simp; omega) | simp))))) (hrw.later (by repeat (first | exact Below.refl _ _ | assumption | (refine below_drewN ?_ _) | (refine Below.drew ?_) | (refine Below.alloc ?_ (by first | omega | (simp; omega) | simp) _) | (refine Below.setCell ?_ (by first | omega | (simp; omega) | simp) _) | (refine below_trans ?_ (by assumption) (by first | omega | (simp; omega) | simp)))))).mono ?_
            rintro e w2 ⟨rfl, hb_w2⟩
            obtain ⟨hc_w2, hf_w2⟩ := bcell hb_w2; have hz_w2_wr_0 : wr.heap.size < w2.heap.size := (by have hzz := hb_w2.size; (try simp only [World.size_alloc, World.size_setCell, World.size_drew, World.heap_drewN] at hzz); omega); have hs_w2 := hb_w2.size; (try simp only [World.size_alloc, World.size_setCell, World.size_drew, World.heap_drewN] at hs_w2)
            clear hc_w2 hf_w2
            go_wp2
            go_ret
            exact ⟨rfl, (by repeat (first | exact Below.refl _ _ | assumption | (refine below_drewN ?_ _) | (refine Below.drew ?_) | (refine Below.alloc ?_ (by first | omega | (simp; omega) | simp) _) | (refine Below.setCell ?_ (by first | omega | (simp; omega) | simp) _) | (refine below_trans ?_ (by assumption) (by first | omega | (simp; omega) | simp))))⟩
      · have f1 : ((ss : Int) == 1) = false := by simp; omega
        by_cases h02 : ss = 0 ∨ ss = 2
        · by_cases hk0 : sk = 0
          · by_cases hv0 : sv = 0
            · have HY2 := HY (.inr ⟨h02, hk0, hv0⟩)
              subst hk0 hv0
              clear HY HN h1
              rcases h02 with rfl | rfl
              all_goals
                go_wp2
                go_roundw
                case rel => exact ⟨k + 1, by go_num, by omega, HY2, (by first | omega | (simp; omega) | simp), (by first | exact kb | (exact (World.cell?_alloc_lt _ _ ⟨_, _, _⟩ (by first | omega | (simp; omega) | simp)).trans kb) | (exact (World.cell?_alloc_lt _ _ ⟨_, _, _⟩ (by first | omega | (simp; omega) | simp)).trans ((World.cell?_alloc_lt _ _ ⟨_, _, _⟩ (by first | omega | (simp; omega) | simp)).trans kb)) | (simp [go_sem, kb]; done)), (by repeat (first | exact Below.refl _ _ | assumption | (refine below_drewN ?_ _) | (refine Below.drew ?_) | (refine Below.alloc ?_ (by first | omega | (simp; omega) | simp) _) | (refine Below.setCell ?_ (by first | omega | (simp; omega) | simp) _) | (refine below_trans ?_ (by assumption) (by first | omega | (simp; omega) | simp))))⟩
                case measure => simp [intOf]; omega
            · obtain rfl : r = false := HN (by rintro (⟨h, _⟩ | ⟨_, _, h⟩); exact h1 h; exact hv0 h)
              have f3 : ((sv : Int) == 0) = false := by simp; omega
              subst hk0
              clear HY HN h1 hv0
              rcases h02 with rfl | rfl
              all_goals
                go_wp2
                go_ret
                exact ⟨rfl, (by repeat (first | exact Below.refl _ _ | assumption | (refine below_drewN ?_ _) | (refine Below.drew ?_) | (refine Below.alloc ?_ (by first | omega | (simp; omega) | simp) _) | (refine Below.setCell ?_ (by first | omega | (simp; omega) | simp) _) | (refine below_trans ?_ (by assumption) (by first | omega | (simp; omega) | simp))))⟩
          · obtain rfl : r = false := HN (by rintro (⟨h, _⟩ | ⟨_, h, _⟩); exact h1 h; exact hk0 h)
            have f3 : ((sk : Int) == 0) = false := by simp; omega
            clear HY HN h1 hk0
            rcases h02 with rfl | rfl
            all_goals
              go_wp2
              go_ret
              exact ⟨rfl, (by repeat (first | exact Below.refl _ _ | assumption | (refine below_drewN ?_ _) | (refine Below.drew ?_) | (refine Below.alloc ?_ (by first | omega | (simp; omega) | simp) _) | (refine Below.setCell ?_ (by first | omega | (simp; omega) | simp) _) | (refine below_trans ?_ (by assumption) (by first | omega | (simp; omega) | simp))))⟩
        · obtain rfl : r = false := HN (by rintro (⟨h, _⟩ | ⟨h, _⟩); exact h1 h; exact h02 h)
          have f3 : ((ss : Int) == 0) = false := by simp; omega
          have f4 : ((ss : Int) == 2) = false := by simp; omega
          clear HY HN h1 h02
          go_wp2
          go_ret
          exact ⟨rfl, (by repeat (first | exact Below.refl _ _ | assumption | (refine below_drewN ?_ _) | (refine Below.drew ?_) | (refine Below.alloc ?_ (by first | omega | (simp; omega) | simp) _) | (refine Below.setCell ?_ (by first | omega | (simp; omega) | simp) _) | (refine below_trans ?_ (by assumption) (by first | omega | (simp; omega) | simp))))⟩
    · obtain rfl : r = true := HR.out.2 fun i hi => hA.out i (by omega)
      go_wp2
      go_ret
      exact ⟨rfl, (by repeat (first | exact Below.refl _ _ | assumption | (refine below_drewN ?_ _) | (refine Below.drew ?_) | (refine Below.alloc ?_ (by first | omega | (simp; omega) | simp) _) | (refine Below.setCell ?_ (by first | omega | (simp; omega) | simp) _) | (refine below_trans ?_ (by assumption) (by first | omega | (simp; omega) | simp))))⟩
end
end Go.Proofs.YtdeopodfpeeenaaDoor
