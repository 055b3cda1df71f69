/- Contracts of package special: those, Check. -/
import Derived.Test.YtamnfgpoelbgcaaV4
namespace Go.Proofs.Ytamnfgpoelbgcaa
open Go.RowKit
set_option linter.unusedVariables false
set_option linter.unusedSimpArgs false

theorem filter_next (l : List Sc) (p : Sc → Bool) (k : Nat) (h : k < l.length) : (l.take (k + 1)).filter p = (l.take k).filter p ++ (if p (nthC l k) then [nthC l k] else []) := by
  rw [take_nthC l k h, List.filter_append]
  congr 1
  simp only [List.filter_cons, List.filter_nil]
theorem news_3 {w : World} {g : Nat} {s : Sc} (h : Sp3 w g 0 s) (j : Nat) (u : Value) (hj : (scc s)[j]? = some u) : w.cell? ((⟨g, 0, none⟩ : Addr).add j) = some u := by
  obtain ⟨c0, c1, c2⟩ := h
  rw [add_form]
  match j, hj with
  | 0, hj => simp [scc] at hj; subst hj; simpa using c0
  | 1, hj => simp [scc] at hj; subst hj; simpa using c1
  | 2, hj => simp [scc] at hj; subst hj; simpa using c2
  | j + 3, hj => simp [scc] at hj
theorem scc_one (s : Sc) : ∀ v ∈ scc s, v.oneCell' = true := by
  intro v hv
  simp only [scc, List.mem_cons, List.not_mem_nil, or_false] at hv
  rcases hv with rfl | rfl | rfl <;> rfl
theorem flat_snoc (l : List Sc) (s : Sc) : flat (l ++ [s]) = flat l ++ scc s := by
  rw [flat_append]
  congr 1
section
variable {w : World} {A : Option Addr} {l : List Sc} (cap : Nat)
set_option maxHeartbeats 1000000 in
theorem cthose_any (g : FuncId) (lb : Array Value) (p : Sc → Bool) (eg : ∀ args w, (callFunc g args).run Try.prog w = .ok (.enter g args) w) (hr : CRow w w.heap.size A l) (hl : l.length ≤ 5864062014805) (hs : SaysC g lb l p w) :
    Calls Try.prog 27 #[.slice A l.length cap, .func (.func g) #[] lb] w fun e w' => ∃ B cb, e = .returned (.slice B (l.filter p).length cb) ∧ OwnsC w' w.heap.size (.slice B (l.filter p).length cb) (l.filter p) ∧ Below w.heap.size w w' := by
  have HS := Lib.hid hs
  clear hs
  obtain ⟨i0, hi, hz0, hz1, hz2⟩ := info_parts info_sc
  go_enter Try.func27, Try.ntmps27
  go_wp2_with fail
  go_loopw [5, 10] (fun c ii wr => ∃ k : Nat, ii = .int .i64 (k : Nat) ∧ k ≤ l.length ∧ ∃ (ys : List Sc) (n : Nat) (Ac : Option Addr) (capc : Nat), Hid (ys = (l.take k).filter p) ∧ Hid (ys.length = n) ∧ n ≤ k ∧ c = .slice Ac n capc ∧ wr.ownsRow w.heap.size 41 3 (.slice Ac n capc) n (flat ys) ∧ w.heap.size ≤ wr.heap.size ∧ Below w.heap.size w wr) (fun _ ii _ => l.length - (intOf ii).toNat)
  case atStart => exact ⟨0, rfl, Nat.zero_le _, [], 0, none, 0, Lib.hid (by simp), Lib.hid rfl, (by first | omega | (simp; omega) | simp), rfl, World.ownsRow_nil _ _ _ _, (by first | omega | (simp; omega) | simp), (by repeat (first | exact Below.refl _ _ | assumption | (refine below_drewN ?_ _) | (refine Below.drew ?_) | (refine Below.alloc ?_ (by first | omega | (simp; omega) | simp) _) | (refine Below.setCell ?_ (by first | omega | (simp; omega) | simp) _) | (refine below_trans ?_ (by assumption) (by first | omega | (simp; omega) | simp))))⟩
  case round =>
    obtain ⟨k, rfl, hk, ys, n, Ac, capc, hys, hyn, hnk, rfl, oC, hsz, hb_wr⟩ := hrel
    by_cases hlt : k < l.length
    · obtain ⟨b, off, rfl, hbb, hc⟩ := (hr.later hb_wr).at_ (by omega)
      have c3 := hc k hlt
      have hF := filter_next l p k hlt
      have hcall := fun W hb => HS.out W (nthC l k) hb (nthC_mem l k hlt)
      obtain ⟨d, hd⟩ : ∃ d, Hid (nthC l k = d) := ⟨_, rfl⟩
      rw [hd.out] at c3 hcall hF
      obtain ⟨c0, c1, c2⟩ := id c3
      clear hc
      have HS3 := Lib.hid (fun (W : World) (t : TypeId) => Sp3.new W d t)
      have HSC : Hid (scc d = [.int .u64 d.a, .int .u8 d.k, .int .u64 d.t]) := Lib.hid rfl
      rcases hq : p d with _ | _
      · rw [hq] at hcall hF
        have HF : Hid (ys = (l.take (k + 1)).filter p) := Lib.hid (by rw [hF, hys.out]; simp)
        have HC := Lib.hid hcall
        clear hcall hF hq
        obtain ⟨a, kk, t⟩ := d
        simp only at c0 c1 c2
        unfold scv at HC
        simp only at HC
        go_wp2_with (refine (HC.out _ (by repeat (first | exact Below.refl _ _ | assumption | (refine below_drewN ?_ _) | (refine Below.drew ?_) | (refine Below.alloc ?_ (by first | omega | (simp; omega) | simp) _) | (refine Below.setCell ?_ (by first | omega | (simp; omega) | simp) _) | (refine below_trans ?_ (by assumption) (by first | omega | (simp; omega) | simp))))).mono ?_; rintro e w1 ⟨rfl, hb_w1⟩; obtain ⟨hc_w1, hf_w1⟩ := bcell hb_w1; have hz_w1_wr_0 : wr.heap.size < w1.heap.size := (by have hzz := hb_w1.size; (try simp only [World.size_alloc, World.size_setCell, World.size_drew, World.heap_drewN] at hzz); omega); have hs_w1 := hb_w1.size; (try simp only [World.size_alloc, World.size_setCell, World.size_drew, World.heap_drewN] at hs_w1))
        go_roundw
        case rel => exact ⟨k + 1, by go_num, by omega, ys, n, Ac, capc, HF, hyn, by omega, rfl, owns_laterC (owns_laterC oC (by repeat (first | exact Below.refl _ _ | assumption | (refine below_drewN ?_ _) | (refine Below.drew ?_) | (refine Below.alloc ?_ (by first | omega | (simp; omega) | simp) _) | (refine Below.setCell ?_ (by first | omega | (simp; omega) | simp) _) | (refine below_trans ?_ (by assumption) (by first | omega | (simp; omega) | simp))))) hb_w1, by omega, (by repeat (first | exact Below.refl _ _ | assumption | (refine below_drewN ?_ _) | (refine Below.drew ?_) | (refine Below.alloc ?_ (by first | omega | (simp; omega) | simp) _) | (refine Below.setCell ?_ (by first | omega | (simp; omega) | simp) _) | (refine below_trans ?_ (by assumption) (by first | omega | (simp; omega) | simp))))⟩
        case measure => simp [intOf]; omega
      · rw [hq] at hcall hF
        have HF : Hid (ys ++ [d] = (l.take (k + 1)).filter p) := Lib.hid (by rw [hF, hys.out]; simp)
        have HL : Hid ((ys ++ [d]).length = n + 1) := Lib.hid (by rw [List.length_append, hyn.out]; rfl)
        have HV := Lib.hid (flat_snoc ys d)
        have HC := Lib.hid hcall
        have HO := Lib.hid (scc_one d)
        clear hcall hF hq
        obtain ⟨a, kk, t⟩ := d
        simp only at c0 c1 c2
        unfold scv at HC
        simp only at HC
        go_wp2_with (first
          | (refine (HC.out _ (by repeat (first | exact Below.refl _ _ | assumption | (refine below_drewN ?_ _) | (refine Below.drew ?_) | (refine Below.alloc ?_ (by first | omega | (simp; omega) | simp) _) | (refine Below.setCell ?_ (by first | omega | (simp; omega) | simp) _) | (refine below_trans ?_ (by assumption) (by first | omega | (simp; omega) | simp))))).mono ?_; rintro e w1 ⟨rfl, hb_w1⟩; obtain ⟨hc_w1, hf_w1⟩ := bcell hb_w1; have hz_w1_wr_0 : wr.heap.size < w1.heap.size := (by have hzz := hb_w1.size; (try simp only [World.size_alloc, World.size_setCell, World.size_drew, World.heap_drewN] at hzz); omega); have hs_w1 := hb_w1.size; (try simp only [World.size_alloc, World.size_setCell, World.size_drew, World.heap_drewN] at hs_w1); have oC1 := owns_laterC (owns_laterC oC ((by repeat (first | exact Below.refl _ _ | assumption | (refine below_drewN ?_ _) | (refine Below.drew ?_) | (refine Below.alloc ?_ (by first | omega | (simp; omega) | simp) _) | (refine Below.setCell ?_ (by first | omega | (simp; omega) | simp) _) | (refine below_trans ?_ (by assumption) (by first | omega | (simp; omega) | simp)))))) hb_w1; have s0 := (hc_w1 wr.heap.size 0 (by first | omega | (simp; omega) | simp)).trans (by simp [go_sem]; rfl); have s1 := (hc_w1 wr.heap.size 1 (by first | omega | (simp; omega) | simp)).trans (by simp [go_sem]; rfl); have s2 := (hc_w1 wr.heap.size 2 (by first | omega | (simp; omega) | simp)).trans (by simp [go_sem]; rfl))
          | (at_builtin; refine wpList_append_lies _ ?_ (.tmp 17) (.tmp 19) 22 ?_ w.heap.size 41 i0 _ 3 24 Try.underlying22 hi hz0 hz1 hz2 rfl (by omega) (.slice Ac n capc) n (flat ys) ?_ (oC1.alloc _) ⟨w1.heap.size, 0, none⟩ 1 1 [.int .u64 a, .int .u8 kk, .int .u64 t] ?_ (by simp) ?_ (by simp [Value.oneCell']) (by omega) (by unfold maxLen; omega) (by omega) (by first | omega | (simp; omega) | simp) _ rfl ?_; rfl; rfl; rfl; rfl; (exact fun j u hj => news_3 (HS3.out w1 _) j u hj); intro g cap7 w7 hown7 hg7 hat7 hlt7; have hb_w7 : Below w.heap.size _ w7 := (Below.refl _ _).grown hg7 (by first | omega | (simp; omega) | simp) (fun b hb => oC1.lt b hb |>.1); have hs7 := hb_w7.size; (try simp only [World.size_alloc] at hs7)))
        go_roundw
        case rel =>
          refine ⟨k + 1, by go_num, by omega, ys ++ [⟨a, kk, t⟩], n + 1, some ⟨g, 0, none⟩, cap7, HF, HL, by omega, rfl, ?_, (by first | omega | (simp; omega) | simp), (by repeat (first | exact Below.refl _ _ | assumption | (refine below_drewN ?_ _) | (refine Below.drew ?_) | (refine Below.alloc ?_ (by first | omega | (simp; omega) | simp) _) | (refine Below.setCell ?_ (by first | omega | (simp; omega) | simp) _) | (refine below_trans ?_ (by assumption) (by first | omega | (simp; omega) | simp))))⟩
          rw [HV.out]; exact hown7
        case measure => simp [intOf]; omega
    · obtain rfl : k = l.length := by omega
      have e : ys = l.filter p := by rw [hys.out, List.take_length]
      have hyn' := hyn.out
      subst hyn'
      rw [e] at oC
      have HE : Hid (ys.length = (l.filter p).length) := Lib.hid (by rw [e])
      clear e
      go_wp2
      go_ret
      refine ⟨Ac, capc, by rw [← HE.out]; rfl, ?_, (by repeat (first | exact Below.refl _ _ | assumption | (refine below_drewN ?_ _) | (refine Below.drew ?_) | (refine Below.alloc ?_ (by first | omega | (simp; omega) | simp) _) | (refine Below.setCell ?_ (by first | omega | (simp; omega) | simp) _) | (refine below_trans ?_ (by assumption) (by first | omega | (simp; omega) | simp))))⟩
      exact oC

end
end Go.Proofs.Ytamnfgpoelbgcaa
