/- special.Addrs of any length. -/
import Derived.Test.YtamnfgpoelbgcaaV32
namespace Go.Proofs.Ytamnfgpoelbgcaa
open Go.RowKit
set_option linter.unusedVariables false
set_option linter.unusedSimpArgs false

section
variable {w : World} {A : Option Addr} {l : List Sc} (cap : Nat)
set_option maxHeartbeats 4000000 in
theorem caddrs_ok (hr : CRow w w.heap.size A l) (hcl : l.length ≤ cap) (hok : OkC l) (kd : Int) (xs : List Int) (hx : addrsOf l kd = intsV xs) :
    Calls Try.prog 18 #[.slice A l.length cap, .int .u8 kd] w fun e w' => ∃ A' c', e = .returned (.tuple #[.slice A' (cmpI xs).length c', .int .i64 0]) ∧ WRow w' A' (cmpI xs) ∧ Below w.heap.size w w' := by
  obtain ⟨i0, hi, hz0, hz1, hz2⟩ := info_parts info_u64
  have hl := hok.1
  have HC := Lib.hid fun (w : World) hr => ccheck_any (w := w) (A := A) (l := l) cap hr hcl (by omega) 0 (.inl ⟨hok, rfl⟩)
  have HX := Lib.hid hx
  clear hok hx
  go_enter Try.func18, Try.ntmps18
  go_wp2_with fail
  go_at_call 20
  refine (HC.out _ (hr.later (by repeat (first | exact Below.refl _ _ | assumption | (refine below_drewN ?_ _) | (refine Below.drew ?_) | (refine Below.alloc ?_ (by first | omega | (simp; omega) | simp) _) | (refine Below.setCell ?_ (by first | omega | (simp; omega) | simp) _) | (refine below_trans ?_ (by assumption) (by first | omega | (simp; omega) | simp)))))).mono ?_
  rintro e w1 ⟨rfl, hb_w1⟩
  obtain ⟨hc_w1, hf_w1⟩ := bcell hb_w1; have hs_w1 := hb_w1.size; (try simp only [World.size_alloc, World.size_setCell, World.size_drew, World.heap_drewN] at hs_w1)
  have b1 : Below w.heap.size w w1 := (by repeat (first | exact Below.refl _ _ | assumption | (refine below_drewN ?_ _) | (refine Below.drew ?_) | (refine Below.alloc ?_ (by first | omega | (simp; omega) | simp) _) | (refine Below.setCell ?_ (by first | omega | (simp; omega) | simp) _) | (refine below_trans ?_ (by assumption) (by first | omega | (simp; omega) | simp))))
  go_wp2_with fail
  go_loopw [7, 17] (fun c ii wr => ∃ k : Nat, ii = .int .i64 (k : Nat) ∧ k ≤ l.length ∧ ∃ (n : Nat) (Ac : Option Addr) (capc : Nat), (addrsOf (l.take k) kd).length = n ∧ n ≤ k ∧ c = .slice Ac n capc ∧ wr.ownsRow w.heap.size 23 1 (.slice Ac n capc) n (addrsOf (l.take k) kd) ∧ w.heap.size ≤ wr.heap.size ∧ Below w.heap.size w wr) (fun _ ii _ => l.length - (intOf ii).toNat)
  case atStart => exact ⟨0, rfl, Nat.zero_le _, 0, none, 0, by simp [addrsOf], Nat.le_refl _, rfl, by simp only [List.take_zero]; exact World.ownsRow_nil _ _ _ _, (by first | omega | (simp; omega) | simp), b1⟩
  case round =>
    obtain ⟨k, rfl, hk, n, Ac, capc, hyn, hnk, rfl, oC, hsz, hb_wr⟩ := hrel
    by_cases hlt : k < l.length
    · obtain ⟨b, off, rfl, hbb, hc⟩ := (hr.later hb_wr).at_ (by omega)
      have c3 := hc k hlt
      have hF := addrs_next l kd k hlt
      obtain ⟨d, hd⟩ : ∃ d, Hid (nthC l k = d) := ⟨_, rfl⟩
      rw [hd.out] at c3 hF
      obtain ⟨c0, c1, c2⟩ := id c3
      clear hc
      obtain ⟨ys, hys⟩ : ∃ ys, Hid (addrsOf (l.take k) kd = ys) := ⟨_, rfl⟩
      rw [hys.out] at oC hF hyn
      have HYN := Lib.hid hyn
      clear hyn
      obtain ⟨a, kk, t⟩ := d
      simp only at c0 c1 c2 hF
      by_cases hq : kk = kd
      · have f1 : (kk == kd) = true := by simpa using hq
        rw [if_pos f1] at hF
        have HF := Lib.hid hF
        have HL : Hid ((addrsOf (l.take (k + 1)) kd).length = n + 1) := Lib.hid (by rw [hF, List.length_append, HYN.out]; rfl)
        clear hF hq
        go_wp2_with (at_builtin; refine wpList_append_lies _ ?_ (.tmp 25) (.tmp 28) 35 ?_ w.heap.size 23 i0 _ 1 8 Try.underlying35 hi hz0 hz1 hz2 rfl (by omega) (.slice Ac n capc) n ys ?_ ((oC.alloc _).alloc _) ⟨wr.heap.size + 1, 0, none⟩ 1 1 [.int .u64 a] ?_ (by simp) ?_ (by simp [Value.oneCell']) (by omega) (by unfold maxLen; omega) (by omega) (by first | omega | (simp; omega) | simp) _ rfl ?_; rfl; rfl; rfl; rfl; (intro j u hj; have hj0 : j = 0 := (by cases j with | zero => rfl | succ j => simp at hj); subst hj0; simp at hj; subst hj; rw [add_form]; simp [go_sem]); intro g cap7 w7 hown7 hg7 hat7 hlt7; have hb_w7 : Below w.heap.size _ w7 := (Below.refl _ _).grown hg7 (by first | omega | (simp; omega) | simp) (fun b hb => oC.lt b hb |>.1); have hs7 := hb_w7.size; (try simp only [World.size_alloc] at hs7))
        go_roundw
        case rel => exact ⟨k + 1, by go_num, by omega, n + 1, some ⟨g, 0, none⟩, cap7, HL.out, by omega, rfl, by rw [HF.out]; exact hown7, (by first | omega | (simp; omega) | simp), (by repeat (first | exact Below.refl _ _ | assumption | (refine below_drewN ?_ _) | (refine Below.drew ?_) | (refine Below.alloc ?_ (by first | omega | (simp; omega) | simp) _) | (refine Below.setCell ?_ (by first | omega | (simp; omega) | simp) _) | (refine below_trans ?_ (by assumption) (by first | omega | (simp; omega) | simp))))⟩
        case measure => simp [intOf]; omega
      · have f1 : (kk == kd) = false := by simpa using hq
        rw [f1] at hF
        simp only [Bool.false_eq_true, if_false, List.append_nil] at hF
        have HF := Lib.hid hF
        have HL : Hid ((addrsOf (l.take (k + 1)) kd).length = n) := Lib.hid (by rw [hF, HYN.out])
        clear hF hq
        go_wp2
        go_roundw
        case rel => exact ⟨k + 1, by go_num, by omega, n, Ac, capc, HL.out, by omega, rfl, by rw [HF.out]; exact oC.alloc _, (by first | omega | (simp; omega) | simp), (by repeat (first | exact Below.refl _ _ | assumption | (refine below_drewN ?_ _) | (refine Below.drew ?_) | (refine Below.alloc ?_ (by first | omega | (simp; omega) | simp) _) | (refine Below.setCell ?_ (by first | omega | (simp; omega) | simp) _) | (refine below_trans ?_ (by assumption) (by first | omega | (simp; omega) | simp))))⟩
        case measure => simp [intOf]; omega
    · obtain rfl : k = l.length := by omega
      rw [List.take_length, HX.out] at oC hyn
      have hxn : xs.length = n := by rw [← hyn]; unfold intsV; rw [List.length_map]
      have HC9 := Lib.hid (ccompact_any oC hxn (by omega))
      clear hxn hyn
      go_wp2_with fail
      go_at_call 31
      refine HC9.out.mono ?_
      rintro e w8 ⟨g8, c8, rfl, k8, l8⟩
      have hb_w8 := l8 (by first | omega | (simp; omega) | simp)
      go_wp2
      go_ret2
      exact ⟨g8, c8, rfl, k8, (by repeat (first | exact Below.refl _ _ | assumption | (refine below_drewN ?_ _) | (refine Below.drew ?_) | (refine Below.alloc ?_ (by first | omega | (simp; omega) | simp) _) | (refine Below.setCell ?_ (by first | omega | (simp; omega) | simp) _) | (refine below_trans ?_ (by assumption) (by first | omega | (simp; omega) | simp))))⟩
theorem caddrs_bad (hr : CRow w w.heap.size A l) (hcl : l.length ≤ cap) (hl : l.length ≤ 5864062014805) (hok : ¬ OkC l) (kd : Int) :
    Calls Try.prog 18 #[.slice A l.length cap, .int .u8 kd] w fun e w' => e = .returned (.tuple #[.slice none 0 0, .int .i64 2]) ∧ Below w.heap.size w w' := by
  have HC := Lib.hid fun (w : World) hr => ccheck_any (w := w) (A := A) (l := l) cap hr hcl hl 2 (.inr ⟨hok, rfl⟩)
  clear hok
  go_enter Try.func18, Try.ntmps18
  go_wp2_with fail
  go_at_call 20
  refine (HC.out _ (hr.later (by repeat (first | exact Below.refl _ _ | assumption | (refine below_drewN ?_ _) | (refine Below.drew ?_) | (refine Below.alloc ?_ (by first | omega | (simp; omega) | simp) _) | (refine Below.setCell ?_ (by first | omega | (simp; omega) | simp) _) | (refine below_trans ?_ (by assumption) (by first | omega | (simp; omega) | simp)))))).mono ?_
  rintro e w1 ⟨rfl, hb_w1⟩
  obtain ⟨hc_w1, hf_w1⟩ := bcell hb_w1; have hs_w1 := hb_w1.size; (try simp only [World.size_alloc, World.size_setCell, World.size_drew, World.heap_drewN] at hs_w1)
  go_wp2
  go_ret2
  exact ⟨rfl, (by repeat (first | exact Below.refl _ _ | assumption | (refine below_drewN ?_ _) | (refine Below.drew ?_) | (refine Below.alloc ?_ (by first | omega | (simp; omega) | simp) _) | (refine Below.setCell ?_ (by first | omega | (simp; omega) | simp) _) | (refine below_trans ?_ (by assumption) (by first | omega | (simp; omega) | simp))))⟩
theorem xaddrs_bad (hr : CRow w w.heap.size A l) (hcl : l.length ≤ cap) (hl : l.length ≤ 5864062014805) (hok : ¬ OkC l) (kd : Int) :
    Calls Try.prog 19 #[.slice A l.length cap, .int .u8 kd] w fun e w' => e = .returned (.tuple #[.slice none 0 0, .int .i64 2]) ∧ Below w.heap.size w w' := by
  have HC := Lib.hid fun (w : World) hr => xccheck_any (w := w) (A := A) (l := l) cap hr hcl hl 2 (.inr ⟨hok, rfl⟩)
  clear hok
  go_enter Try.func19, Try.ntmps19
  go_wp2_with fail
  go_at_call 21
  refine (HC.out _ (hr.later (by repeat (first | exact Below.refl _ _ | assumption | (refine below_drewN ?_ _) | (refine Below.drew ?_) | (refine Below.alloc ?_ (by first | omega | (simp; omega) | simp) _) | (refine Below.setCell ?_ (by first | omega | (simp; omega) | simp) _) | (refine below_trans ?_ (by assumption) (by first | omega | (simp; omega) | simp)))))).mono ?_
  rintro e w1 ⟨rfl, hb_w1⟩
  obtain ⟨hc_w1, hf_w1⟩ := bcell hb_w1; have hs_w1 := hb_w1.size; (try simp only [World.size_alloc, World.size_setCell, World.size_drew, World.heap_drewN] at hs_w1)
  go_wp2
  go_ret2
  exact ⟨rfl, (by repeat (first | exact Below.refl _ _ | assumption | (refine below_drewN ?_ _) | (refine Below.drew ?_) | (refine Below.alloc ?_ (by first | omega | (simp; omega) | simp) _) | (refine Below.setCell ?_ (by first | omega | (simp; omega) | simp) _) | (refine below_trans ?_ (by assumption) (by first | omega | (simp; omega) | simp))))⟩
end
end Go.Proofs.Ytamnfgpoelbgcaa
