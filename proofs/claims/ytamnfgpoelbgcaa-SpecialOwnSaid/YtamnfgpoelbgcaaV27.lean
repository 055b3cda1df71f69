/- The walk of the law SpecialOwn. -/
import Derived.Test.YtamnfgpoelbgcaaV26
import Derived.Test.YtamnfgpoelbgcaaV25
namespace Go.Proofs.Ytamnfgpoelbgcaa
open Go.RowKit
set_option linter.unusedVariables false
set_option linter.unusedSimpArgs false

set_option maxHeartbeats 8000000 in
theorem specialOwn_walk (A : Option Addr) (cap : Nat) (l : List Sc) (s : Sc) (x : Int) (w : World) (hr : CRow w w.heap.size A l) (hcl : l.length ≤ cap) (hl : l.length ≤ 5864062014805) (hnil : A = none → cap = 0) :
    Calls Try.prog 8 #[.slice A l.length cap, scv s, .int .u64 x] w fun e w' => e = .returned (.bool true) ∧ Below w.heap.size w w' := by
  obtain ⟨la, ya, hE⟩ := AddE.ex l [s]
  obtain ⟨lo, yo, hO⟩ := OfE.ex l (ofP x)
  obtain ⟨lr, lt, yt, hT⟩ := TakeE.ex l x s.k
  have ha := hE.len hl
  have ho := hO.len hl
  obtain ⟨hlr, hlt⟩ := hT.len hl
  have HCP := Lib.hid fun (w : World) hr => xcopyS_any (w := w) (A := A) (l := l) cap hr hl
  unfold CopiedS at HCP
  have HA := Lib.hid fun (w : World) (M : Option Addr) hr hm => cadd_any (w := w) (A := A) (M := M) (l := l) (more := [s]) cap 1 hr hcl hl hnil hm (by simp) _ _ hE
  simp only [List.length_cons, List.length_nil, Nat.zero_add] at HA
  have HN := Lib.hid fun (w : World) (g : Nat) hg => crow_newG w g [s] 41 hg
  have HO := Lib.hid fun (w : World) hr => cofL_any (w := w) (A := A) (l := l) cap hr hcl hl x _ _ hO
  have HT := Lib.hid fun (w : World) hr => ctakeL_any (w := w) (A := A) (l := l) cap hr hcl hl x s.k _ _ _ hT
  have HS := Lib.hid fun (w : World) (A C : Option Addr) (ca cc : Nat) hr hq => xsame_self w A C ca cc l hl hr hq
  clear hE hO hT
  obtain ⟨a, kk, t⟩ := s
  unfold scv
  simp only at *
  go_enter Try.func8, Try.ntmps8
  go_wp2_with fail
  go_at_call 16
  refine (clives_any _).mono ?_
  rintro e w1 ⟨rfl, hb_w1⟩
  obtain ⟨hc_w1, hf_w1⟩ := bcell hb_w1; have hz_w1_w_0 : w.heap.size < w1.heap.size := (by have hzz := hb_w1.size; (try simp only [World.size_alloc, World.size_setCell, World.size_drew, World.heap_drewN] at hzz); omega); have hs_w1 := hb_w1.size; (try simp only [World.size_alloc, World.size_setCell, World.size_drew, World.heap_drewN] at hs_w1)
  go_wp2_with fail
  go_at_call 9
  refine (HCP.out _ (hr.later (by repeat (first | exact Below.refl _ _ | assumption | (refine below_drewN ?_ _) | (refine Below.drew ?_) | (refine Below.alloc ?_ (by first | omega | (simp; omega) | simp) _) | (refine Below.setCell ?_ (by first | omega | (simp; omega) | simp) _) | (refine below_trans ?_ (by assumption) (by first | omega | (simp; omega) | simp)))))).mono ?_
  rintro e w2 ⟨g2, c2, rfl, o2, hb_w2⟩
  obtain ⟨hc_w2, hf_w2⟩ := bcell hb_w2; have hz_w2_w_0 : w.heap.size < w2.heap.size := (by have hzz := hb_w2.size; (try simp only [World.size_alloc, World.size_setCell, World.size_drew, World.heap_drewN] at hzz); omega); have hs_w2 := hb_w2.size; (try simp only [World.size_alloc, World.size_setCell, World.size_drew, World.heap_drewN] at hs_w2)
  have rk := CRow.of_owns o2
  have b2 : Below w.heap.size w w2 := (by repeat (first | exact Below.refl _ _ | assumption | (refine below_drewN ?_ _) | (refine Below.drew ?_) | (refine Below.alloc ?_ (by first | omega | (simp; omega) | simp) _) | (refine Below.setCell ?_ (by first | omega | (simp; omega) | simp) _) | (refine below_trans ?_ (by assumption) (by first | omega | (simp; omega) | simp))))
  go_wp2_with fail
  go_at_call 10
  refine (HA.out _ _ ((hr.later b2).later (by repeat (first | exact Below.refl _ _ | assumption | (refine below_drewN ?_ _) | (refine Below.drew ?_) | (refine Below.alloc ?_ (by first | omega | (simp; omega) | simp) _) | (refine Below.setCell ?_ (by first | omega | (simp; omega) | simp) _) | (refine below_trans ?_ (by assumption) (by first | omega | (simp; omega) | simp))))) (by exact HN.out _ _ rfl)).mono ?_
  rintro e w3 ⟨B3, c3, rfl, o3, hb_w3⟩
  obtain ⟨hc_w3, hf_w3⟩ := bcell hb_w3; have hz_w3_w_0 : w.heap.size < w3.heap.size := (by have hzz := hb_w3.size; (try simp only [World.size_alloc, World.size_setCell, World.size_drew, World.heap_drewN] at hzz); omega); have hs_w3 := hb_w3.size; (try simp only [World.size_alloc, World.size_setCell, World.size_drew, World.heap_drewN] at hs_w3)
  have b23 : Below w2.heap.size w2 w3 := (by repeat (first | exact Below.refl _ _ | assumption | (refine below_drewN ?_ _) | (refine Below.drew ?_) | (refine Below.alloc ?_ (by first | omega | (simp; omega) | simp) _) | (refine Below.setCell ?_ (by first | omega | (simp; omega) | simp) _) | (refine below_trans ?_ (by assumption) (by first | omega | (simp; omega) | simp))))
  have b3 : Below w.heap.size w w3 := below_trans b2 b23 (by first | omega | (simp; omega) | simp)
  go_wp2_with fail
  go_at_call 12
  refine (HO.out _ ((hr.later b3).later (by repeat (first | exact Below.refl _ _ | assumption | (refine below_drewN ?_ _) | (refine Below.drew ?_) | (refine Below.alloc ?_ (by first | omega | (simp; omega) | simp) _) | (refine Below.setCell ?_ (by first | omega | (simp; omega) | simp) _) | (refine below_trans ?_ (by assumption) (by first | omega | (simp; omega) | simp)))))).mono ?_
  rintro e w4 ⟨B4, c4, rfl, o4, hb_w4⟩
  obtain ⟨hc_w4, hf_w4⟩ := bcell hb_w4; have hz_w4_w_0 : w.heap.size < w4.heap.size := (by have hzz := hb_w4.size; (try simp only [World.size_alloc, World.size_setCell, World.size_drew, World.heap_drewN] at hzz); omega); have hs_w4 := hb_w4.size; (try simp only [World.size_alloc, World.size_setCell, World.size_drew, World.heap_drewN] at hs_w4)
  have b24 : Below w2.heap.size w2 w4 := below_trans b23 hb_w4 (by first | omega | (simp; omega) | simp)
  have b4 : Below w.heap.size w w4 := below_trans b2 b24 (by first | omega | (simp; omega) | simp)
  go_wp2_with fail
  go_at_call 14
  refine (HT.out _ ((hr.later b4).later (by repeat (first | exact Below.refl _ _ | assumption | (refine below_drewN ?_ _) | (refine Below.drew ?_) | (refine Below.alloc ?_ (by first | omega | (simp; omega) | simp) _) | (refine Below.setCell ?_ (by first | omega | (simp; omega) | simp) _) | (refine below_trans ?_ (by assumption) (by first | omega | (simp; omega) | simp)))))).mono ?_
  rintro e w5 ⟨B5, c5, C5, d5, rfl, o5, o5', hb_w5⟩
  obtain ⟨hc_w5, hf_w5⟩ := bcell hb_w5; have hz_w5_w_0 : w.heap.size < w5.heap.size := (by have hzz := hb_w5.size; (try simp only [World.size_alloc, World.size_setCell, World.size_drew, World.heap_drewN] at hzz); omega); have hs_w5 := hb_w5.size; (try simp only [World.size_alloc, World.size_setCell, World.size_drew, World.heap_drewN] at hs_w5)
  have b25 : Below w2.heap.size w2 w5 := below_trans b24 hb_w5 (by first | omega | (simp; omega) | simp)
  have b5 : Below w.heap.size w w5 := below_trans b2 b25 (by first | omega | (simp; omega) | simp)
  have b35 : Below w3.heap.size w3 w5 := below_trans hb_w4 hb_w5 (by first | omega | (simp; omega) | simp)
  have T3 : TagRow w5 w2.heap.size w5.heap.size B3 la.length := ((TagRow.of_owns o3).later b35).wide (by first | omega | (simp; omega) | simp) (by first | omega | (simp; omega) | simp)
  have T4 : TagRow w5 w2.heap.size w5.heap.size B4 lo.length := ((TagRow.of_owns o4).later hb_w5).wide (by first | omega | (simp; omega) | simp) (by first | omega | (simp; omega) | simp)
  have T5 : TagRow w5 w2.heap.size w5.heap.size B5 lr.length := (TagRow.of_owns o5).wide (by first | omega | (simp; omega) | simp) (by first | omega | (simp; omega) | simp)
  have T6 : TagRow w5 w2.heap.size w5.heap.size C5 lt.length := (TagRow.of_owns o5').wide (by first | omega | (simp; omega) | simp) (by first | omega | (simp; omega) | simp)
  have R0 := Lib.hid fun (c0 c1 c2 c3 : Nat) (t : TypeId) => Rows4.new (c0 := c0) (c1 := c1) (c2 := c2) (c3 := c3) t T3 T4 T5 T6 (by omega) (by omega) (by omega) (by omega)
  clear T3 T4 T5 T6 o2 o3 o4 o5 o5' hc_w1 hf_w1 hc_w2 hf_w2 hc_w3 hf_w3 hc_w4 hf_w4 hc_w5 hf_w5
  have rl := hr.later b2
  clear hr b35 b23 b24
  go_wp2_with fail
  go_loopw [50] (fun ii wr => ∃ k : Nat, ii = .int .i64 (k : Nat) ∧ k ≤ 4 ∧ Rows4 wr w2.heap.size w5.heap.size ∧ w5.heap.size + 1 ≤ wr.heap.size ∧ Below w2.heap.size w2 wr) (fun ii _ => 4 - (intOf ii).toNat)
  case atStart => exact ⟨0, rfl, by omega, R0.out _ _ _ _ _, (by first | omega | (simp; omega) | simp), (by repeat (first | exact Below.refl _ _ | assumption | (refine below_drewN ?_ _) | (refine Below.drew ?_) | (refine Below.alloc ?_ (by first | omega | (simp; omega) | simp) _) | (refine Below.setCell ?_ (by first | omega | (simp; omega) | simp) _) | (refine below_trans ?_ (by assumption) (by first | omega | (simp; omega) | simp))))⟩
  case round =>
    obtain ⟨k, rfl, hk, hR, hsz, hb_wr⟩ := hrel
    have hsr := hb_wr.size
    by_cases hlt : k < 4
    · obtain ⟨Am, n, cm, cG, hn, hT⟩ := hR k hlt
      have HR := Lib.hid hR
      have HTg := Lib.hid hT
      clear hR hT
      go_wp2_with fail
      generalize wr = wD at *
      go_loopw [56] (fun jj wr => ∃ j : Nat, jj = .int .i64 (j : Nat) ∧ j ≤ n ∧ Rows4 wr w2.heap.size w5.heap.size ∧ TagRow wr w2.heap.size w5.heap.size Am n ∧ w5.heap.size + 1 ≤ wr.heap.size ∧ Below w2.heap.size w2 wr) (fun jj _ => n - (intOf jj).toNat)
      case atStart => exact ⟨0, rfl, Nat.zero_le _, HR.out, HTg.out, hsz, hb_wr⟩
      case round =>
        clear HR HTg hsz hb_wr hsr cG
        obtain ⟨j, rfl, hj, hR, hT, hsz, hb_wr⟩ := hrel
        have hsr := hb_wr.size
        have HR := Lib.hid hR
        have HTg := Lib.hid hT
        clear hR
        by_cases hjl : j < n
        · obtain ⟨g, tt, rfl, hgB, hgE, c, f⟩ := hT j hjl
          have fj := f (j * 3 + 2)
          clear hT f
          go_wp2
          go_roundw
          case rel => exact ⟨j + 1, by go_num, by omega, HR.out.set hgE _, HTg.out.set _ _, (by first | omega | (simp; omega) | simp), (by repeat (first | exact Below.refl _ _ | assumption | (refine below_drewN ?_ _) | (refine Below.drew ?_) | (refine Below.alloc ?_ (by first | omega | (simp; omega) | simp) _) | (refine Below.setCell ?_ (by first | omega | (simp; omega) | simp) _) | (refine below_trans ?_ (by assumption) (by first | omega | (simp; omega) | simp))))⟩
          case measure => simp [intOf]; omega
        · clear hT
          go_wp2
          go_roundw
          case rel => exact ⟨k + 1, by go_num, by omega, HR.out, hsz, hb_wr⟩
          case measure => simp [intOf]; omega
    · obtain rfl : k = 4 := by omega
      clear hR
      have bw : Below w.heap.size w wr := below_trans b2 hb_wr (by first | omega | (simp; omega) | simp)
      go_wp2_with fail
      go_at_call 17
      refine (HS.out _ _ _ _ _ ((rl.later hb_wr).later (by repeat (first | exact Below.refl _ _ | assumption | (refine below_drewN ?_ _) | (refine Below.drew ?_) | (refine Below.alloc ?_ (by first | omega | (simp; omega) | simp) _) | (refine Below.setCell ?_ (by first | omega | (simp; omega) | simp) _) | (refine below_trans ?_ (by assumption) (by first | omega | (simp; omega) | simp))))) ((rk.later hb_wr).later (by repeat (first | exact Below.refl _ _ | assumption | (refine below_drewN ?_ _) | (refine Below.drew ?_) | (refine Below.alloc ?_ (by first | omega | (simp; omega) | simp) _) | (refine Below.setCell ?_ (by first | omega | (simp; omega) | simp) _) | (refine below_trans ?_ (by assumption) (by first | omega | (simp; omega) | simp)))))).mono ?_
      rintro e w9 ⟨rfl, hb_w9⟩
      go_wp2
      go_ret
      exact ⟨rfl, (by repeat (first | exact Below.refl _ _ | assumption | (refine below_drewN ?_ _) | (refine Below.drew ?_) | (refine Below.alloc ?_ (by first | omega | (simp; omega) | simp) _) | (refine Below.setCell ?_ (by first | omega | (simp; omega) | simp) _) | (refine below_trans ?_ (by assumption) (by first | omega | (simp; omega) | simp))))⟩
end Go.Proofs.Ytamnfgpoelbgcaa
