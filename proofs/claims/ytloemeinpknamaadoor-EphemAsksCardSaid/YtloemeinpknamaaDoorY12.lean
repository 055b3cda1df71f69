/- Contracts of the document's own answers for tables: home, find, many, copy, same. -/
import Derived.Test.YtloemeinpknamaaDoorY11
namespace Go.Proofs.YtloemeinpknamaaDoor
open Go.RowKit
set_option linter.unusedVariables false
set_option linter.unusedSimpArgs false

theorem ret2_int {a b c : Int} (h : a = b) : Ending.returned (.tuple #[.int .i64 a, .int .i64 c]) = .returned (.tuple #[.int .i64 b, .int .i64 c]) := by rw [h]
theorem home_form2 (key q : Nat) (hq : key * FAC % W64 / q < 64) : wrap64 (IntKind.u64.wrap ((IntKind.u64.wrap (↑key * 11400714819323198485)).tdiv (q : Nat))) = ((key * FAC % W64 / q : Nat) : Int) := by
  have e : IntKind.u64.wrap ((key : Int) * 11400714819323198485) = ((key * FAC % W64 : Nat) : Int) := by
    rw [IntKind.wrap_u64]
    unfold FAC W64
    omega
  rw [e]
  generalize key * FAC % W64 = x at *
  rw [Int.tdiv_eq_ediv_of_nonneg (by omega), ← Int.natCast_ediv]
  generalize x / q = y at *
  rw [IntKind.wrap_u64]
  unfold wrap64
  omega
theorem exhome_any (key n : Nat) (h : Sz n) (w : World) :
    Calls Tryd.prog 22 #[.int .u64 (key : Nat), .int .i64 (n : Nat)] w fun e w' => e = .returned (.tuple #[.int .i64 (hm key n : Nat), .int .i64 0]) ∧ w = w' := by
  have HL := hm_lt key h
  rcases h with rfl | rfl | rfl | rfl
  · go_enter Tryd.func22, Tryd.ntmps22
    go_wp2
    go_ret2
    exact ⟨ret2_int (home_form2 key 2305843009213693952 (by rw [← hm8]; omega)), rfl⟩
  · go_enter Tryd.func22, Tryd.ntmps22
    go_wp2
    go_ret2
    exact ⟨ret2_int (home_form2 key 1152921504606846976 (by rw [← hm16]; omega)), rfl⟩
  · go_enter Tryd.func22, Tryd.ntmps22
    go_wp2
    go_ret2
    exact ⟨ret2_int (home_form2 key 576460752303423488 (by rw [← hm32]; omega)), rfl⟩
  · go_enter Tryd.func22, Tryd.ntmps22
    go_wp2
    go_ret2
    exact ⟨ret2_int (home_form2 key 288230376151711744 (by rw [← hm64]; omega)), rfl⟩
theorem exhome_no (key : Nat) (n : Int) (h : ¬ (n = 8 ∨ n = 16 ∨ n = 32 ∨ n = 64)) (w : World) :
    Calls Tryd.prog 22 #[.int .u64 (key : Nat), .int .i64 n] w fun e w' => e = .returned (.tuple #[.int .i64 0, .int .i64 1]) ∧ w = w' := by
  have f1 : (n == 8) = false := by rw [beq_eq_false_iff_ne]; omega
  have f2 : (n == 16) = false := by rw [beq_eq_false_iff_ne]; omega
  have f3 : (n == 32) = false := by rw [beq_eq_false_iff_ne]; omega
  have f4 : (n == 64) = false := by rw [beq_eq_false_iff_ne]; omega
  clear h
  go_enter Tryd.func22, Tryd.ntmps22
  go_wp2
  go_ret2
  exact ⟨rfl, rfl⟩
def cntS (l : List Es) (st : Nat) : Nat := l.countP fun s => s.s == st
theorem cntS_take (l : List Es) (st k : Nat) (h : k < l.length) : cntS (l.take (k + 1)) st = cntS (l.take k) st + if (nthE l k).s = st then 1 else 0 := by
  unfold cntS
  rw [take_nthE l k h, List.countP_append]
  by_cases e : (nthE l k).s = st <;> simp [List.countP_cons, e]
section
variable {w : World} {A : Option Addr} {l : List Es} (cap : Nat)
set_option maxHeartbeats 1000000 in
theorem exfind_any (key : Nat) (hr : ERow w w.heap.size A l) (hl : l.length ≤ 5864062014805) :
    Calls Tryd.prog 32 #[eph A l.length cap, .int .u64 (key : Nat)] w fun e w' => e = .returned (.int .i64 (toI l.length (xfd l key))) ∧ Below w.heap.size w w' := by
  obtain ⟨r, hR⟩ : ∃ r, Hid (toI l.length (xfd l key) = r) := ⟨_, rfl⟩
  rw [hR.out]
  unfold eph
  go_enter Tryd.func32, Tryd.ntmps32
  go_wp2_with fail
  go_loopw [10] (fun ii wr => ∃ k : Nat, ii = .int .i64 (k : Nat) ∧ k ≤ l.length ∧ Hid (∀ j, j < k → isK key (nthE l j) = false) ∧ w.heap.size ≤ wr.heap.size ∧ Below w.heap.size w wr) (fun ii _ => l.length - (intOf ii).toNat)
  case atStart => exact ⟨0, rfl, Nat.zero_le _, Lib.hid (fun j hj => by omega), (by first | omega | (simp; omega) | simp), (by repeat (first | exact Below.refl _ _ | assumption | (refine below_drewN ?_ _) | (refine Below.drew ?_) | (refine Below.alloc ?_ (by first | omega | (simp; omega) | simp) _) | (refine Below.setCell ?_ (by first | omega | (simp; omega) | simp) _) | (refine below_trans ?_ (by assumption) (by first | omega | (simp; omega) | simp))))⟩
  case round =>
    obtain ⟨k, rfl, hk, hA, hsz, hb_wr⟩ := hrel
    have hsr := hb_wr.size
    by_cases hlt : k < l.length
    · obtain ⟨b, off, rfl, hbb, hc⟩ := (hr.later hb_wr).at_ (by omega)
      obtain ⟨c0, c1, c2⟩ := hc k hlt
      have i1 : (k : Int) < (l.length : Int) := by omega
      have i2 : (0 : Int) ≤ (k : Int) := by omega
      have HNO : isK key (nthE l k) = false → Hid (∀ j, j < k + 1 → isK key (nthE l j) = false) := fun h => Lib.hid fun j hj => by
        by_cases e : j = k
        · rw [e]; exact h
        · exact hA.out j (by omega)
      have HYES : isK key (nthE l k) = true → r = (k : Int) := fun h => by
        have e : xfd l key = k := fst1_eq hlt h fun j hj => hA.out j hj
        rw [← hR.out, e, toI_lt hlt]
      unfold isK at HNO HYES
      generalize hs : nthE l k = s at *
      obtain ⟨ss, sk, sv⟩ := s
      simp only at c0 c1 c2 HNO HYES
      clear hc hs
      by_cases h1 : ss = 1
      · subst h1
        by_cases h2 : sk = key
        · obtain rfl := HYES (by simp [h2])
          have f2 : ((sk : Int) == (key : Int)) = true := by simp [h2]
          clear HYES HNO h2
          go_wp2
          go_ret
          exact ⟨rfl, (by repeat (first | exact Below.refl _ _ | assumption | (refine below_drewN ?_ _) | (refine Below.drew ?_) | (refine Below.alloc ?_ (by first | omega | (simp; omega) | simp) _) | (refine Below.setCell ?_ (by first | omega | (simp; omega) | simp) _) | (refine below_trans ?_ (by assumption) (by first | omega | (simp; omega) | simp))))⟩
        · have HB := HNO (by simp [h2])
          have f2 : ((sk : Int) == (key : Int)) = false := by rw [beq_eq_false_iff_ne]; omega
          clear HYES HNO h2
          go_wp2
          go_roundw
          case rel => exact ⟨k + 1, by go_num, by omega, HB, (by first | omega | (simp; omega) | simp), (by repeat (first | exact Below.refl _ _ | assumption | (refine below_drewN ?_ _) | (refine Below.drew ?_) | (refine Below.alloc ?_ (by first | omega | (simp; omega) | simp) _) | (refine Below.setCell ?_ (by first | omega | (simp; omega) | simp) _) | (refine below_trans ?_ (by assumption) (by first | omega | (simp; omega) | simp))))⟩
          case measure => simp [intOf]; omega
      · have HB := HNO (by simp [h1])
        have f2 : ((ss : Int) == 1) = false := by rw [beq_eq_false_iff_ne]; omega
        clear HYES HNO h1
        go_wp2
        go_roundw
        case rel => exact ⟨k + 1, by go_num, by omega, HB, (by first | omega | (simp; omega) | simp), (by repeat (first | exact Below.refl _ _ | assumption | (refine below_drewN ?_ _) | (refine Below.drew ?_) | (refine Below.alloc ?_ (by first | omega | (simp; omega) | simp) _) | (refine Below.setCell ?_ (by first | omega | (simp; omega) | simp) _) | (refine below_trans ?_ (by assumption) (by first | omega | (simp; omega) | simp))))⟩
        case measure => simp [intOf]; omega
    · obtain rfl : r = -1 := by
        rw [← hR.out, xfd_miss fun j hj => hA.out j (by omega), toI_no (by omega)]
      go_wp2
      go_ret
      exact ⟨rfl, (by repeat (first | exact Below.refl _ _ | assumption | (refine below_drewN ?_ _) | (refine Below.drew ?_) | (refine Below.alloc ?_ (by first | omega | (simp; omega) | simp) _) | (refine Below.setCell ?_ (by first | omega | (simp; omega) | simp) _) | (refine below_trans ?_ (by assumption) (by first | omega | (simp; omega) | simp))))⟩
set_option maxHeartbeats 1000000 in
theorem exmany_any (st : Nat) (hr : ERow w w.heap.size A l) (hl : l.length ≤ 5864062014805) :
    Calls Tryd.prog 34 #[eph A l.length cap, .int .u8 (st : Nat)] w fun e w' => e = .returned (.int .i64 (cntS l st : Nat)) ∧ Below w.heap.size w w' := by
  unfold eph
  go_enter Tryd.func34, Tryd.ntmps34
  go_wp2_with fail
  go_loopw [5, 11] (fun nn ii wr => ∃ k : Nat, ii = .int .i64 (k : Nat) ∧ k ≤ l.length ∧ nn = .int .i64 (cntS (l.take k) st : Nat) ∧ w.heap.size ≤ wr.heap.size ∧ Below w.heap.size w wr) (fun nn ii _ => l.length - (intOf ii).toNat)
  case atStart => exact ⟨0, rfl, Nat.zero_le _, rfl, (by first | omega | (simp; omega) | simp), (by repeat (first | exact Below.refl _ _ | assumption | (refine below_drewN ?_ _) | (refine Below.drew ?_) | (refine Below.alloc ?_ (by first | omega | (simp; omega) | simp) _) | (refine Below.setCell ?_ (by first | omega | (simp; omega) | simp) _) | (refine below_trans ?_ (by assumption) (by first | omega | (simp; omega) | simp))))⟩
  case round =>
    obtain ⟨k, rfl, hk, rfl, hsz, hb_wr⟩ := hrel
    have hsr := hb_wr.size
    have hfl : cntS (l.take k) st ≤ (l.take k).length := List.countP_le_length
    rw [List.length_take] at hfl
    by_cases hlt : k < l.length
    · obtain ⟨b, off, rfl, hbb, hc⟩ := (hr.later hb_wr).at_ (by omega)
      obtain ⟨c0, c1, c2⟩ := hc k hlt
      have hft := Lib.hid (cntS_take l st k hlt)
      have i1 : (k : Int) < (l.length : Int) := by omega
      have i2 : (0 : Int) ≤ (k : Int) := by omega
      generalize nthE l k = s at *
      obtain ⟨ss, sk, sv⟩ := s
      simp only at c0 c1 c2 hft
      generalize cntS (l.take k) st = f at *
      clear hc
      by_cases hs : ss = st
      · have f2 : ((ss : Int) == (st : Int)) = true := by simp [hs]
        have hft2 := Lib.hid (show cntS (l.take (k + 1)) st = f + 1 by rw [hft.out, if_pos hs])
        clear hs
        go_wp2
        go_roundw
        case rel => exact ⟨k + 1, by go_num, by omega, by rw [hft2.out]; go_num, (by first | omega | (simp; omega) | simp), (by repeat (first | exact Below.refl _ _ | assumption | (refine below_drewN ?_ _) | (refine Below.drew ?_) | (refine Below.alloc ?_ (by first | omega | (simp; omega) | simp) _) | (refine Below.setCell ?_ (by first | omega | (simp; omega) | simp) _) | (refine below_trans ?_ (by assumption) (by first | omega | (simp; omega) | simp))))⟩
        case measure => simp [intOf]; omega
      · have f2 : ((ss : Int) == (st : Int)) = false := by rw [beq_eq_false_iff_ne]; omega
        have hft2 := Lib.hid (show cntS (l.take (k + 1)) st = f by rw [hft.out, if_neg hs]; omega)
        clear hs
        go_wp2
        go_roundw
        case rel => exact ⟨k + 1, by go_num, by omega, by rw [hft2.out], (by first | omega | (simp; omega) | simp), (by repeat (first | exact Below.refl _ _ | assumption | (refine below_drewN ?_ _) | (refine Below.drew ?_) | (refine Below.alloc ?_ (by first | omega | (simp; omega) | simp) _) | (refine Below.setCell ?_ (by first | omega | (simp; omega) | simp) _) | (refine below_trans ?_ (by assumption) (by first | omega | (simp; omega) | simp))))⟩
        case measure => simp [intOf]; omega
    · obtain rfl : k = l.length := by omega
      have HX := Lib.hid (List.take_length (l := l))
      go_wp2
      go_ret
      exact ⟨by rw [HX.out]; rfl, (by repeat (first | exact Below.refl _ _ | assumption | (refine below_drewN ?_ _) | (refine Below.drew ?_) | (refine Below.alloc ?_ (by first | omega | (simp; omega) | simp) _) | (refine Below.setCell ?_ (by first | omega | (simp; omega) | simp) _) | (refine below_trans ?_ (by assumption) (by first | omega | (simp; omega) | simp))))⟩
def CopR (w : World) (l : List Es) (e : Ending) (w' : World) : Prop := ∃ (A : Option Addr) (cap : Nat), e = .returned (eph A l.length cap) ∧ ETab w' w.heap.size A cap l ∧ Below w.heap.size w w'
theorem excopy_any (hr : ERow w w.heap.size A l) (hl : l.length ≤ 5864062014805) : Calls Tryd.prog 10 #[eph A l.length cap] w fun e w' => CopR w l e w' := by
  unfold CopR eph
  obtain ⟨i0, hi, hz0, hz1, hz2⟩ := info_parts info_es
  have hwd := Lib.hid hr.wd
  by_cases h0 : 0 < l.length
  · obtain ⟨b, off, rfl, hbb, hc⟩ := hr.at_ h0
    have hsrc := fun j v hv => hr.src (b := b) (off := off) j v hv
    have hlt : b < w.heap.size := hbb
    have hem := own_emptyE ((w.alloc (.cells #[.slice (some ⟨b, off, none⟩) l.length cap] 24)).alloc (.cells #[.slice none 0 0] 24)) _ (w.heap.size + 2) (by simp) rfl
    simp only [World.size_alloc] at hem
    go_enter Tryd.func10, Tryd.ntmps10
    go_wp2_with (at_builtin; refine wpList_append_lies _ ?_ (.tmp 3) (.tmp 5) 22 ?_ (w.heap.size + 2) 54 i0 _ 3 24 Tryd.underlying22 hi hz0 hz1 hz2 rfl (by omega) (.slice (some ⟨w.heap.size + 1 + 1, 0, none⟩) 0 0) 0 [] ?_ hem ⟨b, off, none⟩ l.length cap (eflat l) ?_ (by rw [length_eflat]) ?_ (eflat_one l) h0 (by unfold maxLen; omega) (by omega) (by simp) _ rfl ?_; rfl; rfl; rfl; rfl; (exact fun j u hj => by have h9 := hsrc j u hj; rw [add_form] at h9 ⊢; exact (World.cell?_alloc_lt _ _ ⟨_, _, _⟩ (by simp; omega)).trans ((World.cell?_alloc_lt _ _ ⟨_, _, _⟩ (by simp; omega)).trans ((World.cell?_alloc_lt _ _ ⟨_, _, _⟩ hlt).trans h9))); intro g cap2 w2 hown2 hg2 hat2 hlt2; simp only [Nat.zero_add, List.nil_append] at hown2; have hb_w2 : Below (w.heap.size + 2) _ w2 := (Below.refl _ _).grown hg2 (by simp) (fun k hk => (by simp [Value.ownBlock] at hk; omega)); obtain ⟨hc_w2, hf_w2⟩ := bcell hb_w2; have hz_w2_w_0 : w.heap.size < w2.heap.size := (by have hzz := hb_w2.size; (try simp only [World.size_alloc, World.size_setCell, World.size_drew, World.heap_drewN] at hzz); omega); have hz_w2_w_1 : w.heap.size + 1 < w2.heap.size := (by have hzz := hb_w2.size; (try simp only [World.size_alloc, World.size_setCell, World.size_drew, World.heap_drewN] at hzz); omega))
    have k0 : w2.cell? ⟨w.heap.size + 1, 0, none⟩ = some (.slice none 0 0) := (hc_w2 _ _ (by first | omega | (simp; omega) | simp)).trans (by simp [go_sem])
    have k1 : w2.frozen? ⟨w.heap.size + 1, 0, none⟩ = false := (hf_w2 _ _ (by first | omega | (simp; omega) | simp)).trans (by simp [go_sem])
    clear hc_w2 hf_w2
    go_wp2
    exact bodyPost_ret (res_p1 rfl rfl (g := w.heap.size + 1) (v0 := .slice (some ⟨g, 0, none⟩) l.length cap2) (by first | exact World.cell?_setCell_same _ _ _ k0 | exact World.cell?_setCell_same _ _ _ (by first | exact k0 | (exact (World.cell?_alloc_lt _ _ ⟨_, _, _⟩ (by first | omega | (simp; omega) | simp)).trans k0) | (exact (World.cell?_alloc_lt _ _ ⟨_, _, _⟩ (by first | omega | (simp; omega) | simp)).trans ((World.cell?_alloc_lt _ _ ⟨_, _, _⟩ (by first | omega | (simp; omega) | simp)).trans k0)) | (simp [go_sem, k0]; done)) | exact (World.cell?_alloc_lt _ _ ⟨_, _, _⟩ (by first | omega | (simp; omega) | simp)).trans (World.cell?_setCell_same _ _ _ k0) | (simp [go_sem, k0]; done))) rfl ⟨_, cap2, rfl, ((ETab.of_owns (l := l) (by unfold OwnsE; exact hown2) hwd.out).far (by show w.heap.size + 1 < _; omega) _).mono (by omega), (by repeat (first | exact Below.refl _ _ | assumption | (refine below_drewN ?_ _) | (refine Below.drew ?_) | (refine Below.alloc ?_ (by first | omega | (simp; omega) | simp) _) | (refine Below.setCell ?_ (by first | omega | (simp; omega) | simp) _) | (refine below_trans ?_ (by assumption) (by first | omega | (simp; omega) | simp))))⟩
  · obtain rfl : l = [] := List.eq_nil_of_length_eq_zero (by omega)
    simp only [List.length_nil]
    cases A
    all_goals
      go_enter Tryd.func10, Tryd.ntmps10
      go_wp2
      exact bodyPost_ret (res_p1 rfl rfl (g := w.heap.size + 1) (v0 := .slice (some ⟨w.heap.size + 1 + 1, 0, none⟩) 0 0) (by simp [go_sem])) rfl ⟨_, 0, rfl, ⟨EOwn.nil _ _ _, fun h => by cases h⟩, (by repeat (first | exact Below.refl _ _ | assumption | (refine below_drewN ?_ _) | (refine Below.drew ?_) | (refine Below.alloc ?_ (by first | omega | (simp; omega) | simp) _) | (refine Below.setCell ?_ (by first | omega | (simp; omega) | simp) _) | (refine below_trans ?_ (by assumption) (by first | omega | (simp; omega) | simp))))⟩
end
end Go.Proofs.YtloemeinpknamaaDoor
