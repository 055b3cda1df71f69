/- Contracts: Addrs of specials, where two have one address. -/
import Derived.Test.YtamnfgpoelbgcaaV16
namespace Go.Proofs.Ytamnfgpoelbgcaa
open Go.RowKit
set_option linter.unusedVariables false
set_option linter.unusedSimpArgs false

theorem zero_u64V : ∀ w, (zeroValue 23).run Try.prog w = .ok (.int .u64 0) w := by
  intro w
  obtain ⟨i0, hi, hz0, hz1, hz2⟩ := info_parts info_u64
  simp [zeroValue, typeInfo, hi, hz0]
section
variable {w : World} {A : Option Addr} (cap : Nat)
set_option maxHeartbeats 4000000 in
theorem ccompact_two {B : Nat} (x : Int) (h : w.ownsRow B 23 1 (.slice A 2 cap) 2 [.int .u64 x, .int .u64 x]) (hB : B ≤ w.heap.size) :
    Calls Try.prog 31 #[.slice A 2 cap] w fun e w' => ∃ g c', e = .returned (.slice (some ⟨g, 0, none⟩) 1 c') ∧ w'.cell? ⟨g, 0, none⟩ = some (.int .u64 x) ∧ g < w'.heap.size ∧ Below B w w' := by
  obtain ⟨g, rfl, hgB, hgl, hcap⟩ : ∃ g, A = some ⟨g, 0, none⟩ ∧ B ≤ g ∧ g < w.heap.size ∧ 2 ≤ cap := by
    obtain ⟨_, ⟨h1, h2⟩ | ⟨g, cap', cur, e, h1, hg, h2, _⟩⟩ := id h
    · omega
    · injection e with e1 _ e3
      exact ⟨g, e1, h1, heap_lt hg, by omega⟩
  have c0 : w.cell? ⟨g, 0, none⟩ = some (.int .u64 x) := by rw [h.cellAt 0 (by omega)]; rfl
  have c1 : w.cell? ⟨g, 1, none⟩ = some (.int .u64 x) := by rw [h.cellAt 1 (by omega)]; rfl
  have f1 : w.frozen? ⟨g, 1, none⟩ = false := h.frozenAt 1
  have hc1 : ¬ (cap = 1) := by omega
  have hc2 : (1 : Int) ≤ (cap : Int) := by omega
  have hcl : ∀ (W : World), (∀ a, W.cell? a = w.cell? a) → (∀ a, W.frozen? a = w.frozen? a) → ∀ c ty, (Builtin.clear_ #[35] ty #[.slice (some ⟨g, 1, none⟩) 1 c]).run Try.prog W = .ok (.tuple #[]) (W.setCells g 1 [.int .u64 0]) := fun W hW hF c ty =>
    Lib.run_clear_slice W 35 23 ty (.int .u64 0) Try.underlying35 zero_u64V rfl rfl g 1 1 c (by omega) (fun j hj => match j, hj with | 0, _ => (by rw [hW, c1]; rfl)) (fun j hj => match j, hj with | 0, _ => (by rw [hF]; exact f1))
  clear h
  go_enter Try.func31, Try.ntmps31
  go_wp2_with fail
  go_loopw [3] (fun ii wr => ii = .int .i64 1 ∧ wr = w) (fun _ _ => 0)
  case atStart => exact ⟨rfl, rfl⟩
  case round =>
    obtain ⟨rfl, hww⟩ := hrel
    have hww := hww.symm
    subst hww
    have hw0 : IntKind.i64.wrap 0 = 0 := rfl
    go_wp2_with fail
    refine wp_region_held_drew (S := (fun X : World => X.cell? ⟨g, 0, none⟩ = some (.int .u64 x) ∧ X.cell? ⟨g, 1, none⟩ = some (.int .u64 x))) (by kernel_rfl) ?_ (fun hHeld => ?_)
    · (try dsimp only); refine ⟨?_, ?_⟩ <;> first | assumption | (simp [go_sem]; done)
    refine wpAnyH_take (i := 0) (v := ?_) rfl (by kernel_rfl) (by kernel_rfl) (by kernel_rfl) (fun _ _ _ h => h) (Or.inl ⟨by rfl, ?_⟩) (by assumption) ?_
    rotate_left
    · (intro w hSw; (try dsimp only at hSw); go_simp; first | done | with_reducible rfl)
    try simp only [Act.put, List.getElem_toArray, List.getElem_cons_zero, List.getElem_cons_succ, List.setIfInBounds_toArray, List.set_cons_zero, List.set_cons_succ]
    refine wpAnyH_take (i := 1) (v := ?_) rfl (by kernel_rfl) (by kernel_rfl) (by kernel_rfl) (fun _ _ _ h => h) (Or.inl ⟨by rfl, ?_⟩) (by assumption) ?_
    rotate_left
    · (intro w hSw; (try dsimp only at hSw); go_simp; first | done | with_reducible rfl)
    try simp only [Act.put, List.getElem_toArray, List.getElem_cons_zero, List.getElem_cons_succ, List.setIfInBounds_toArray, List.set_cons_zero, List.set_cons_succ]
    refine wpAnyH_take (i := 2) (v := ?_) rfl (by kernel_rfl) (by kernel_rfl) (by kernel_rfl) (fun _ _ _ h => h) (Or.inl ⟨by rfl, ?_⟩) (by assumption) ?_
    rotate_left
    · (intro w hSw; (try dsimp only at hSw); go_simp; first | done | with_reducible rfl)
    try simp only [Act.put, List.getElem_toArray, List.getElem_cons_zero, List.getElem_cons_succ, List.setIfInBounds_toArray, List.set_cons_zero, List.set_cons_succ]
    refine wpAnyH_take (i := 3) (v := ?_) rfl (by kernel_rfl) (by kernel_rfl) (by kernel_rfl) (fun _ _ _ h => h) (Or.inl ⟨by rfl, ?_⟩) (by assumption) ?_
    rotate_left
    · (intro w hSw; (try dsimp only at hSw); go_simp; first | done | with_reducible rfl)
    try simp only [Act.put, List.getElem_toArray, List.getElem_cons_zero, List.getElem_cons_succ, List.setIfInBounds_toArray, List.set_cons_zero, List.set_cons_succ]
    refine wpAnyH_take (i := 4) (v := ?_) rfl (by kernel_rfl) (by kernel_rfl) (by kernel_rfl) (fun _ _ _ h => h) (Or.inl ⟨by rfl, ?_⟩) (by assumption) ?_
    rotate_left
    · (intro w hSw; (try dsimp only at hSw); go_simp; first | done | with_reducible rfl)
    try simp only [Act.put, List.getElem_toArray, List.getElem_cons_zero, List.getElem_cons_succ, List.setIfInBounds_toArray, List.set_cons_zero, List.set_cons_succ]
    refine wpAnyH_take (i := 5) (v := ?_) rfl (by kernel_rfl) (by kernel_rfl) (by kernel_rfl) (fun _ _ _ h => h) (Or.inl ⟨by rfl, ?_⟩) (by assumption) ?_
    rotate_left
    · (intro w hSw; (try dsimp only at hSw); go_simp; first | done | with_reducible rfl)
    try simp only [Act.put, List.getElem_toArray, List.getElem_cons_zero, List.getElem_cons_succ, List.setIfInBounds_toArray, List.set_cons_zero, List.set_cons_succ]
    refine wpAnyH_take (i := 6) (v := ?_) rfl (by kernel_rfl) (by kernel_rfl) (by kernel_rfl) (fun _ _ _ h => h) (Or.inl ⟨by rfl, ?_⟩) (by assumption) ?_
    rotate_left
    · (intro w hSw; (try dsimp only at hSw); go_simp; first | done | with_reducible rfl)
    try simp only [Act.put, List.getElem_toArray, List.getElem_cons_zero, List.getElem_cons_succ, List.setIfInBounds_toArray, List.set_cons_zero, List.set_cons_succ]
    refine wpAnyH_take (i := 7) (v := ?_) rfl (by kernel_rfl) (by kernel_rfl) (by kernel_rfl) (fun _ _ _ h => h) (Or.inl ⟨by rfl, ?_⟩) (by assumption) ?_
    rotate_left
    · (intro w hSw; (try dsimp only at hSw); go_simp; first | done | with_reducible rfl)
    try simp only [Act.put, List.getElem_toArray, List.getElem_cons_zero, List.getElem_cons_succ, List.setIfInBounds_toArray, List.set_cons_zero, List.set_cons_succ]
    refine wpAnyH_take (i := 8) (v := ?_) rfl (by kernel_rfl) (by kernel_rfl) (by kernel_rfl) (fun _ _ _ h => h) (Or.inl ⟨by rfl, ?_⟩) (by assumption) ?_
    rotate_left
    · (intro w hSw; (try dsimp only at hSw); go_simp; first | done | with_reducible rfl)
    try simp only [Act.put, List.getElem_toArray, List.getElem_cons_zero, List.getElem_cons_succ, List.setIfInBounds_toArray, List.set_cons_zero, List.set_cons_succ]
    refine wpAnyH_take (i := 9) (v := ?_) rfl (by kernel_rfl) (by kernel_rfl) (by kernel_rfl) (fun _ _ _ h => h) (Or.inl ⟨by rfl, ?_⟩) (by assumption) ?_
    rotate_left
    · (intro w hSw; (try dsimp only at hSw); go_simp; first | done | with_reducible rfl)
    try simp only [Act.put, List.getElem_toArray, List.getElem_cons_zero, List.getElem_cons_succ, List.setIfInBounds_toArray, List.set_cons_zero, List.set_cons_succ]
    refine wpAnyH_done (by kernel_rfl) ?_ _
    go_wp2_with fail
    go_loopw [3, 5] (fun c ii wr => c = .int .i64 1 ∧ ii = .int .i64 1 ∧ (∀ a, wr.cell? a = w.cell? a) ∧ (∀ a, wr.frozen? a = w.frozen? a) ∧ wr.heap.size = w.heap.size ∧ Below w.heap.size w wr) (fun _ _ _ => 0)
    case atStart => exact ⟨rfl, rfl, fun _ => rfl, fun _ => rfl, rfl, (by repeat (first | exact Below.refl _ _ | assumption | (refine below_drewN ?_ _) | (refine Below.drew ?_) | (refine Below.alloc ?_ (by first | omega | (simp; omega) | simp) _) | (refine Below.setCell ?_ (by first | omega | (simp; omega) | simp) _) | (refine below_trans ?_ (by assumption) (by first | omega | (simp; omega) | simp))))⟩
    case round =>
      obtain ⟨rfl, rfl, hW, hF, hS, hb_wr⟩ := hrel
      have z0 := (hW _).trans c0
      have z1 := (hW _).trans c1
      go_wp2_with (simp only [hcl _ hW hF])
      go_ret
      refine ⟨g, _, rfl, ?_, ?_, ?_⟩
      · first
          | exact (World.cell?_setCell_other _ _ _ _ (by simp)).trans z0
          | (simp [World.setCells, go_sem, z0]; done)
      · first
          | (simp [World.setCells]; omega)
          | (show g < wr.heap.size; omega)
      · have hb2 : Below B w wr := hb_wr.mono hB
        first
          | exact hb2.setCell hgB _
          | (simp only [World.setCells]; exact hb2.setCell hgB _)
end
def addrsOf (l : List Sc) (kd : Int) : List Value := (l.filter fun s => s.k == kd).map fun s => .int .u64 s.a
theorem addrs_next (l : List Sc) (kd : Int) (k : Nat) (h : k < l.length) : addrsOf (l.take (k + 1)) kd = addrsOf (l.take k) kd ++ (if (nthC l k).k == kd then [.int .u64 (nthC l k).a] else []) := by
  unfold addrsOf
  rw [take_nthC l k h, List.filter_append, List.map_append]
  congr 1
  simp only [List.filter_cons, List.filter_nil]
  split <;> rfl
theorem addrs_one (l : List Sc) (kd : Int) : ∀ v ∈ addrsOf l kd, v.oneCell' = true := by
  intro v hv
  simp only [addrsOf, List.mem_map] at hv
  obtain ⟨s, _, rfl⟩ := hv
  rfl
theorem addrs_le (l : List Sc) (kd : Int) : (addrsOf l kd).length ≤ l.length := by
  unfold addrsOf
  rw [List.length_map]
  exact List.length_filter_le _ _
section
variable {w : World} {A : Option Addr} {l : List Sc} (cap : Nat)
set_option maxHeartbeats 4000000 in
theorem caddrs_two (hr : CRow w w.heap.size A l) (hcl : l.length ≤ cap) (hok : OkC l) (kd x : Int) (hx : addrsOf l kd = [.int .u64 x, .int .u64 x]) :
    Calls Try.prog 18 #[.slice A l.length cap, .int .u8 kd] w fun e w' => ∃ g c', e = .returned (.tuple #[.slice (some ⟨g, 0, none⟩) 1 c', .int .i64 0]) ∧ w'.cell? ⟨g, 0, none⟩ = some (.int .u64 x) ∧ g < w'.heap.size ∧ Below w.heap.size w w' := by
  obtain ⟨i0, hi, hz0, hz1, hz2⟩ := info_parts info_u64
  have hl := hok.1
  have HC := Lib.hid fun (w : World) hr => ccheck_any (w := w) (A := A) (l := l) cap hr hcl (by omega) 0 (.inl ⟨hok, rfl⟩)
  have HX := Lib.hid hx
  clear hok hx
  go_enter Try.func18, Try.ntmps18
  go_wp2_with fail
  go_at_call 20
  refine (HC.out _ (hr.later (by repeat (first | exact Below.refl _ _ | assumption | (refine below_drewN ?_ _) | (refine Below.drew ?_) | (refine Below.alloc ?_ (by first | omega | (simp; omega) | simp) _) | (refine Below.setCell ?_ (by first | omega | (simp; omega) | simp) _) | (refine below_trans ?_ (by assumption) (by first | omega | (simp; omega) | simp)))))).mono ?_
  rintro e w1 ⟨rfl, hb_w1⟩
  obtain ⟨hc_w1, hf_w1⟩ := bcell hb_w1; have hs_w1 := hb_w1.size; (try simp only [World.size_alloc, World.size_setCell, World.size_drew, World.heap_drewN] at hs_w1)
  have b1 : Below w.heap.size w w1 := (by repeat (first | exact Below.refl _ _ | assumption | (refine below_drewN ?_ _) | (refine Below.drew ?_) | (refine Below.alloc ?_ (by first | omega | (simp; omega) | simp) _) | (refine Below.setCell ?_ (by first | omega | (simp; omega) | simp) _) | (refine below_trans ?_ (by assumption) (by first | omega | (simp; omega) | simp))))
  go_wp2_with fail
  go_loopw [7, 17] (fun c ii wr => ∃ k : Nat, ii = .int .i64 (k : Nat) ∧ k ≤ l.length ∧ ∃ (n : Nat) (Ac : Option Addr) (capc : Nat), (addrsOf (l.take k) kd).length = n ∧ n ≤ k ∧ c = .slice Ac n capc ∧ wr.ownsRow w.heap.size 23 1 (.slice Ac n capc) n (addrsOf (l.take k) kd) ∧ w.heap.size ≤ wr.heap.size ∧ Below w.heap.size w wr) (fun _ ii _ => l.length - (intOf ii).toNat)
  case atStart => exact ⟨0, rfl, Nat.zero_le _, 0, none, 0, by simp [addrsOf], Nat.le_refl _, rfl, by simp only [List.take_zero]; exact World.ownsRow_nil _ _ _ _, (by first | omega | (simp; omega) | simp), b1⟩
  case round =>
    obtain ⟨k, rfl, hk, n, Ac, capc, hyn, hnk, rfl, oC, hsz, hb_wr⟩ := hrel
    by_cases hlt : k < l.length
    · obtain ⟨b, off, rfl, hbb, hc⟩ := (hr.later hb_wr).at_ (by omega)
      have c3 := hc k hlt
      have hF := addrs_next l kd k hlt
      obtain ⟨d, hd⟩ : ∃ d, Hid (nthC l k = d) := ⟨_, rfl⟩
      rw [hd.out] at c3 hF
      obtain ⟨c0, c1, c2⟩ := id c3
      clear hc
      obtain ⟨ys, hys⟩ : ∃ ys, Hid (addrsOf (l.take k) kd = ys) := ⟨_, rfl⟩
      rw [hys.out] at oC hF hyn
      have HYN := Lib.hid hyn
      clear hyn
      obtain ⟨a, kk, t⟩ := d
      simp only at c0 c1 c2 hF
      by_cases hq : kk = kd
      · have f1 : (kk == kd) = true := by simpa using hq
        rw [if_pos f1] at hF
        have HF := Lib.hid hF
        have HL : Hid ((addrsOf (l.take (k + 1)) kd).length = n + 1) := Lib.hid (by rw [hF, List.length_append, HYN.out]; rfl)
        clear hF hq
        go_wp2_with (at_builtin; refine wpList_append_lies _ ?_ (.tmp 25) (.tmp 28) 35 ?_ w.heap.size 23 i0 _ 1 8 Try.underlying35 hi hz0 hz1 hz2 rfl (by omega) (.slice Ac n capc) n ys ?_ ((oC.alloc _).alloc _) ⟨wr.heap.size + 1, 0, none⟩ 1 1 [.int .u64 a] ?_ (by simp) ?_ (by simp [Value.oneCell']) (by omega) (by unfold maxLen; omega) (by omega) (by first | omega | (simp; omega) | simp) _ rfl ?_; rfl; rfl; rfl; rfl; (intro j u hj; have hj0 : j = 0 := (by cases j with | zero => rfl | succ j => simp at hj); subst hj0; simp at hj; subst hj; rw [add_form]; simp [go_sem]); intro g cap7 w7 hown7 hg7 hat7 hlt7; have hb_w7 : Below w.heap.size _ w7 := (Below.refl _ _).grown hg7 (by first | omega | (simp; omega) | simp) (fun b hb => oC.lt b hb |>.1); have hs7 := hb_w7.size; (try simp only [World.size_alloc] at hs7))
        go_roundw
        case rel => exact ⟨k + 1, by go_num, by omega, n + 1, some ⟨g, 0, none⟩, cap7, HL.out, by omega, rfl, by rw [HF.out]; exact hown7, (by first | omega | (simp; omega) | simp), (by repeat (first | exact Below.refl _ _ | assumption | (refine below_drewN ?_ _) | (refine Below.drew ?_) | (refine Below.alloc ?_ (by first | omega | (simp; omega) | simp) _) | (refine Below.setCell ?_ (by first | omega | (simp; omega) | simp) _) | (refine below_trans ?_ (by assumption) (by first | omega | (simp; omega) | simp))))⟩
        case measure => simp [intOf]; omega
      · have f1 : (kk == kd) = false := by simpa using hq
        rw [f1] at hF
        simp only [Bool.false_eq_true, if_false, List.append_nil] at hF
        have HF := Lib.hid hF
        have HL : Hid ((addrsOf (l.take (k + 1)) kd).length = n) := Lib.hid (by rw [hF, HYN.out])
        clear hF hq
        go_wp2
        go_roundw
        case rel => exact ⟨k + 1, by go_num, by omega, n, Ac, capc, HL.out, by omega, rfl, by rw [HF.out]; exact oC.alloc _, (by first | omega | (simp; omega) | simp), (by repeat (first | exact Below.refl _ _ | assumption | (refine below_drewN ?_ _) | (refine Below.drew ?_) | (refine Below.alloc ?_ (by first | omega | (simp; omega) | simp) _) | (refine Below.setCell ?_ (by first | omega | (simp; omega) | simp) _) | (refine below_trans ?_ (by assumption) (by first | omega | (simp; omega) | simp))))⟩
        case measure => simp [intOf]; omega
    · obtain rfl : k = l.length := by omega
      rw [List.take_length, HX.out] at oC hyn
      obtain rfl : n = 2 := by rw [← hyn]; rfl
      go_wp2_with fail
      go_at_call 31
      refine (ccompact_two capc x oC (by first | omega | (simp; omega) | simp)).mono ?_
      rintro e w8 ⟨g8, c8, rfl, k8, l8, hb_w8⟩
      obtain ⟨hc_w8, hf_w8⟩ := bcell hb_w8; have hs_w8 := hb_w8.size; (try simp only [World.size_alloc, World.size_setCell, World.size_drew, World.heap_drewN] at hs_w8)
      go_wp2
      go_ret2
      exact ⟨g8, c8, rfl, k8, l8, (by repeat (first | exact Below.refl _ _ | assumption | (refine below_drewN ?_ _) | (refine Below.drew ?_) | (refine Below.alloc ?_ (by first | omega | (simp; omega) | simp) _) | (refine Below.setCell ?_ (by first | omega | (simp; omega) | simp) _) | (refine below_trans ?_ (by assumption) (by first | omega | (simp; omega) | simp))))⟩
end
end Go.Proofs.Ytamnfgpoelbgcaa
