/- The document's addresses of a kind. -/
import Derived.Test.YtamnfgpoelbgcaaV24
import Derived.Deep.QuietTactic
import Derived.BigQuiet
namespace Go.Proofs.Ytamnfgpoelbgcaa
open Go.RowKit
set_option linter.unusedVariables false
set_option linter.unusedSimpArgs false

def intsV (xs : List Int) : List Value := xs.map fun x => .int .u64 x
def adsI (l : List Sc) (kd : Int) : List Int := ((l.filter fun s => s.k == kd).map fun s => s.a).foldl pushA []
theorem ads_next (l : List Sc) (kd : Int) (k : Nat) (h : k < l.length) : adsI (l.take (k + 1)) kd = if (nthC l k).k == kd then pushA (adsI (l.take k) kd) (nthC l k).a else adsI (l.take k) kd := by
  unfold adsI
  rw [filter_next l _ k h]
  split
  · rename_i hq
    rw [List.map_append, List.foldl_append]
    rfl
  · rw [List.append_nil]
theorem intsV_push (ys : List Int) (a : Int) : intsV (ys ++ [a]) = intsV ys ++ [.int .u64 a] := by
  unfold intsV
  rw [List.map_append]
  rfl
theorem pushA_nil (a : Int) : pushA [] a = [a] := by simp [pushA]
theorem last_word {w : World} {B m cap : Nat} {A : Option Addr} {ys : List Int} (h : w.ownsRow B 23 1 (.slice A (m + 1) cap) (m + 1) (intsV ys)) (hl : ys.length = m + 1) : ∃ g y, A = some ⟨g, 0, none⟩ ∧ g < w.heap.size ∧ w.cell? ⟨g, m, none⟩ = some (.int .u64 y) ∧ ys.getLast? = some y := by
  obtain ⟨_, ⟨h1, h2⟩ | ⟨g, cap', cur, e, h1, hg, h2, _⟩⟩ := id h
  · omega
  · injection e with e1 _ e3
    subst e1 e3
    have c := h.cellAt m (by omega)
    refine ⟨g, ys.getD m 0, rfl, heap_lt hg, ?_, ?_⟩
    · rw [c]
      unfold intsV
      rw [List.getElem?_map, List.getElem?_eq_getElem (by omega), List.getD_eq_getElem?_getD, List.getElem?_eq_getElem (by omega)]
      rfl
    · rw [List.getLast?_eq_getElem?, hl, Nat.add_sub_cancel, List.getD_eq_getElem?_getD, List.getElem?_eq_getElem (by omega)]
      rfl
theorem owns_laterW {w w' : World} {B n : Nat} {v : Value} {xs : List Value} (h : w.ownsRow B 23 1 v n xs) (hb : Below w.heap.size w w') : w'.ownsRow B 23 1 v n xs := by
  refine World.ownsRow.kept (row := none) h ⟨hb.os, hb.tape, hb.output, hb.size, fun k hk _ => hb.block k hk⟩ ?_
  cases hv : v.ownBlock
  · exact .inl rfl
  · exact .inr (by simp)
section
variable {w : World} {A : Option Addr} {l : List Sc} (cap : Nat)
set_option maxHeartbeats 4000000 in
theorem xaddrs_ok (hr : CRow w w.heap.size A l) (hcl : l.length ≤ cap) (hok : OkC l) (kd : Int) (r : List Int) (hR : adsI l kd = r) :
    Calls Try.prog 19 #[.slice A l.length cap, .int .u8 kd] w fun e w' => ∃ B cb, e = .returned (.tuple #[.slice B r.length cb, .int .i64 0]) ∧ w'.ownsRow w.heap.size 23 1 (.slice B r.length cb) r.length (intsV r) ∧ Below w.heap.size w w' := by
  obtain ⟨i0, hi, hz0, hz1, hz2⟩ := info_parts info_u64
  have hl := hok.1
  have HC := Lib.hid fun (w : World) hr => xccheck_any (w := w) (A := A) (l := l) cap hr hcl (by omega) 0 (.inl ⟨hok, rfl⟩)
  have HX := Lib.hid hR
  clear hok hR
  go_enter Try.func19, Try.ntmps19
  go_wp2_with fail
  go_at_call 21
  refine (HC.out _ (hr.later (by repeat (first | exact Below.refl _ _ | assumption | (refine below_drewN ?_ _) | (refine Below.drew ?_) | (refine Below.alloc ?_ (by first | omega | (simp; omega) | simp) _) | (refine Below.setCell ?_ (by first | omega | (simp; omega) | simp) _) | (refine below_trans ?_ (by assumption) (by first | omega | (simp; omega) | simp)))))).mono ?_
  rintro e w1 ⟨rfl, hb_w1⟩
  obtain ⟨hc_w1, hf_w1⟩ := bcell hb_w1; have hs_w1 := hb_w1.size; (try simp only [World.size_alloc, World.size_setCell, World.size_drew, World.heap_drewN] at hs_w1)
  have b1 : Below w.heap.size w w1 := (by repeat (first | exact Below.refl _ _ | assumption | (refine below_drewN ?_ _) | (refine Below.drew ?_) | (refine Below.alloc ?_ (by first | omega | (simp; omega) | simp) _) | (refine Below.setCell ?_ (by first | omega | (simp; omega) | simp) _) | (refine below_trans ?_ (by assumption) (by first | omega | (simp; omega) | simp))))
  go_wp2_with fail
  go_loopw [6, 14] (fun c ii wr => ∃ k : Nat, ii = .int .i64 (k : Nat) ∧ k ≤ l.length ∧ ∃ (ys : List Int) (n : Nat) (Ac : Option Addr) (capc : Nat), Hid (adsI (l.take k) kd = ys) ∧ Hid (ys.length = n) ∧ n ≤ k ∧ c = .slice Ac n capc ∧ wr.ownsRow w.heap.size 23 1 (.slice Ac n capc) n (intsV ys) ∧ w.heap.size ≤ wr.heap.size ∧ Below w.heap.size w wr) (fun _ ii _ => l.length - (intOf ii).toNat)
  case atStart => exact ⟨0, rfl, Nat.zero_le _, [], 0, none, 0, Lib.hid (by simp [adsI]), Lib.hid rfl, Nat.le_refl _, rfl, World.ownsRow_nil _ _ _ _, (by first | omega | (simp; omega) | simp), b1⟩
  case round =>
    obtain ⟨k, rfl, hk, ys, n, Ac, capc, HYS, HYN, hnk, rfl, oC, hsz, hb_wr⟩ := hrel
    by_cases hlt : k < l.length
    · obtain ⟨b, off, rfl, hbb, hc⟩ := (hr.later hb_wr).at_ (by omega)
      have c3 := hc k hlt
      have hF := ads_next l kd k hlt
      obtain ⟨d, hd⟩ : ∃ d, Hid (nthC l k = d) := ⟨_, rfl⟩
      rw [hd.out] at c3 hF
      obtain ⟨c0, c1, c2⟩ := id c3
      clear hc
      rw [HYS.out] at hF
      obtain ⟨a, kk, t⟩ := d
      simp only at c0 c1 c2 hF
      by_cases hq : kk = kd
      · have f1 : (kk == kd) = true := by simpa using hq
        rw [if_pos f1] at hF
        clear hq
        have hways : (n = 0 ∧ pushA ys a = ys ++ [a]) ∨ ∃ m g y, n = m + 1 ∧ Ac = some ⟨g, 0, none⟩ ∧ g < wr.heap.size ∧ wr.cell? ⟨g, m, none⟩ = some (.int .u64 y) ∧ ((y = a ∧ pushA ys a = ys) ∨ (y ≠ a ∧ pushA ys a = ys ++ [a])) := by
          cases n with
          | zero =>
            have : ys = [] := List.eq_nil_of_length_eq_zero HYN.out
            subst this
            exact .inl ⟨rfl, pushA_nil a⟩
          | succ m =>
            obtain ⟨g, y, e, hg, c, hla⟩ := last_word oC HYN.out
            refine .inr ⟨m, g, y, rfl, e, hg, c, ?_⟩
            unfold pushA
            rw [hla]
            by_cases hy : y = a
            · exact .inl ⟨hy, if_pos (by rw [hy])⟩
            · exact .inr ⟨hy, if_neg (by simpa using hy)⟩
        rcases hways with ⟨rfl, hp⟩ | ⟨m, g, y, rfl, rfl, hg, cl, ⟨hy, hp⟩ | ⟨hy, hp⟩⟩
        · have HF := Lib.hid (hF.trans hp)
          have HL : Hid ((ys ++ [a]).length = 0 + 1) := Lib.hid (by rw [List.length_append, HYN.out]; rfl)
          have HV := Lib.hid (intsV_push ys a)
          clear hF hp
          go_wp2_with fail
          go_quiet (fail)
          go_wp2_with (at_builtin; refine wpList_append_lies _ ?_ (.tmp 38) (.tmp 41) 35 ?_ w.heap.size 23 i0 _ 1 8 Try.underlying35 hi hz0 hz1 hz2 rfl (by omega) (.slice Ac 0 capc) 0 (intsV ys) ?_ (owns_laterW oC (by repeat (first | exact Below.refl _ _ | assumption | (refine below_drewN ?_ _) | (refine Below.drew ?_) | (refine Below.alloc ?_ (by first | omega | (simp; omega) | simp) _) | (refine Below.setCell ?_ (by first | omega | (simp; omega) | simp) _) | (refine below_trans ?_ (by assumption) (by first | omega | (simp; omega) | simp))))) ⟨wr.heap.size + 1, 0, none⟩ 1 1 [.int .u64 a] ?_ (by simp) ?_ (by simp [Value.oneCell']) (by omega) (by unfold maxLen; omega) (by omega) (by first | omega | (simp; omega) | simp) _ rfl ?_; rfl; rfl; rfl; rfl; (intro j u hj; have hj0 : j = 0 := (by cases j with | zero => rfl | succ j => simp at hj); subst hj0; simp at hj; subst hj; rw [add_form]; simp [go_sem]); intro g cap7 w7 hown7 hg7 hat7 hlt7; have hb_w7 : Below w.heap.size _ w7 := (Below.refl _ _).grown hg7 (by first | omega | (simp; omega) | simp) (fun b hb => oC.lt b hb |>.1); have hs7 := hb_w7.size; (try simp only [World.size_alloc, World.size_drew, World.heap_drewN] at hs7))
          go_roundw
          case rel => exact ⟨k + 1, by go_num, by omega, ys ++ [a], 0 + 1, some ⟨g, 0, none⟩, cap7, HF, HL, by omega, rfl, by rw [HV.out]; exact hown7, (by first | omega | (simp; omega) | simp), (by repeat (first | exact Below.refl _ _ | assumption | (refine below_drewN ?_ _) | (refine Below.drew ?_) | (refine Below.alloc ?_ (by first | omega | (simp; omega) | simp) _) | (refine Below.setCell ?_ (by first | omega | (simp; omega) | simp) _) | (refine below_trans ?_ (by assumption) (by first | omega | (simp; omega) | simp))))⟩
          case measure => simp [intOf]; omega
        · have HF := Lib.hid (hF.trans hp)
          have hal := (World.cell?_alloc_lt wr (.cells #[.int .u64 a, .int .u8 kk, .int .u64 t] 41) ⟨g, m, none⟩ hg).trans cl
          have f2 : (y != a) = false := by simpa using hy
          have hw2 : IntKind.i64.wrap ((m : Int) + 1 - 1) = (m : Int) := by rw [IntWalk.i64_in _ (by omega)]; omega
          have hw4 : IntKind.i64.wrap (m : Int) = (m : Int) := by rw [IntWalk.i64_in _ (by omega)]
          have hn0 : (0 : Int) ≤ (m : Int) := by omega
          have hn1 : (m : Int) < (m : Int) + 1 := by omega
          have hn2 : ((m : Int) + 1 == 0) = false := by simp; omega
          clear hF hp hy
          go_wp2_with fail
          go_quiet (fail)
          go_wp2
          go_roundw
          case rel => exact ⟨k + 1, by go_num, by omega, ys, m + 1, some ⟨g, 0, none⟩, capc, HF, HYN, by omega, rfl, owns_laterW oC (by repeat (first | exact Below.refl _ _ | assumption | (refine below_drewN ?_ _) | (refine Below.drew ?_) | (refine Below.alloc ?_ (by first | omega | (simp; omega) | simp) _) | (refine Below.setCell ?_ (by first | omega | (simp; omega) | simp) _) | (refine below_trans ?_ (by assumption) (by first | omega | (simp; omega) | simp)))), (by first | omega | (simp; omega) | simp), (by repeat (first | exact Below.refl _ _ | assumption | (refine below_drewN ?_ _) | (refine Below.drew ?_) | (refine Below.alloc ?_ (by first | omega | (simp; omega) | simp) _) | (refine Below.setCell ?_ (by first | omega | (simp; omega) | simp) _) | (refine below_trans ?_ (by assumption) (by first | omega | (simp; omega) | simp))))⟩
          case measure => simp [intOf]; omega
        · have HF := Lib.hid (hF.trans hp)
          have hal := (World.cell?_alloc_lt wr (.cells #[.int .u64 a, .int .u8 kk, .int .u64 t] 41) ⟨g, m, none⟩ hg).trans cl
          have f2 : (y != a) = true := by simpa using hy
          have hw2 : IntKind.i64.wrap ((m : Int) + 1 - 1) = (m : Int) := by rw [IntWalk.i64_in _ (by omega)]; omega
          have hw4 : IntKind.i64.wrap (m : Int) = (m : Int) := by rw [IntWalk.i64_in _ (by omega)]
          have hn0 : (0 : Int) ≤ (m : Int) := by omega
          have hn1 : (m : Int) < (m : Int) + 1 := by omega
          have hn2 : ((m : Int) + 1 == 0) = false := by simp; omega
          have HL : Hid ((ys ++ [a]).length = m + 1 + 1) := Lib.hid (by rw [List.length_append, HYN.out]; rfl)
          have HV := Lib.hid (intsV_push ys a)
          clear hF hp hy
          go_wp2_with fail
          go_quiet (fail)
          go_wp2_with (at_builtin; refine wpList_append_lies _ ?_ (.tmp 38) (.tmp 41) 35 ?_ w.heap.size 23 i0 _ 1 8 Try.underlying35 hi hz0 hz1 hz2 rfl (by omega) (.slice (some ⟨g, 0, none⟩) (m + 1) capc) (m + 1) (intsV ys) ?_ (owns_laterW oC (by repeat (first | exact Below.refl _ _ | assumption | (refine below_drewN ?_ _) | (refine Below.drew ?_) | (refine Below.alloc ?_ (by first | omega | (simp; omega) | simp) _) | (refine Below.setCell ?_ (by first | omega | (simp; omega) | simp) _) | (refine below_trans ?_ (by assumption) (by first | omega | (simp; omega) | simp))))) ⟨wr.heap.size + 1, 0, none⟩ 1 1 [.int .u64 a] ?_ (by simp) ?_ (by simp [Value.oneCell']) (by omega) (by unfold maxLen; omega) (by omega) (by first | omega | (simp; omega) | simp) _ rfl ?_; rfl; rfl; rfl; rfl; (intro j u hj; have hj0 : j = 0 := (by cases j with | zero => rfl | succ j => simp at hj); subst hj0; simp at hj; subst hj; rw [add_form]; simp [go_sem]); intro g2 cap7 w7 hown7 hg7 hat7 hlt7; have hb_w7 : Below w.heap.size _ w7 := (Below.refl _ _).grown hg7 (by first | omega | (simp; omega) | simp) (fun b hb => oC.lt b hb |>.1); have hs7 := hb_w7.size; (try simp only [World.size_alloc, World.size_drew, World.heap_drewN] at hs7))
          go_roundw
          case rel => exact ⟨k + 1, by go_num, by omega, ys ++ [a], m + 1 + 1, some ⟨g2, 0, none⟩, cap7, HF, HL, by omega, rfl, by rw [HV.out]; exact hown7, (by first | omega | (simp; omega) | simp), (by repeat (first | exact Below.refl _ _ | assumption | (refine below_drewN ?_ _) | (refine Below.drew ?_) | (refine Below.alloc ?_ (by first | omega | (simp; omega) | simp) _) | (refine Below.setCell ?_ (by first | omega | (simp; omega) | simp) _) | (refine below_trans ?_ (by assumption) (by first | omega | (simp; omega) | simp))))⟩
          case measure => simp [intOf]; omega
      · have f1 : (kk == kd) = false := by simpa using hq
        rw [f1] at hF
        simp only [Bool.false_eq_true, if_false] at hF
        have HF := Lib.hid hF
        clear hF hq
        go_wp2_with fail
        go_quiet (fail)
        go_wp2
        go_roundw
        case rel => exact ⟨k + 1, by go_num, by omega, ys, n, Ac, capc, HF, HYN, by omega, rfl, owns_laterW oC (by repeat (first | exact Below.refl _ _ | assumption | (refine below_drewN ?_ _) | (refine Below.drew ?_) | (refine Below.alloc ?_ (by first | omega | (simp; omega) | simp) _) | (refine Below.setCell ?_ (by first | omega | (simp; omega) | simp) _) | (refine below_trans ?_ (by assumption) (by first | omega | (simp; omega) | simp)))), (by first | omega | (simp; omega) | simp), (by repeat (first | exact Below.refl _ _ | assumption | (refine below_drewN ?_ _) | (refine Below.drew ?_) | (refine Below.alloc ?_ (by first | omega | (simp; omega) | simp) _) | (refine Below.setCell ?_ (by first | omega | (simp; omega) | simp) _) | (refine below_trans ?_ (by assumption) (by first | omega | (simp; omega) | simp))))⟩
        case measure => simp [intOf]; omega
    · obtain rfl : k = l.length := by omega
      have e : ys = r := by rw [← HYS.out, List.take_length, HX.out]
      have hyn' := HYN.out
      subst hyn'
      subst e
      go_wp2
      go_ret2
      exact ⟨Ac, capc, rfl, oC, (by repeat (first | exact Below.refl _ _ | assumption | (refine below_drewN ?_ _) | (refine Below.drew ?_) | (refine Below.alloc ?_ (by first | omega | (simp; omega) | simp) _) | (refine Below.setCell ?_ (by first | omega | (simp; omega) | simp) _) | (refine below_trans ?_ (by assumption) (by first | omega | (simp; omega) | simp))))⟩
end
end Go.Proofs.Ytamnfgpoelbgcaa
