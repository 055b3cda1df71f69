/- Contracts of package special: twice, behind, refused, those. -/
import Derived.Test.YtamnfgpoelbgcaaV3
namespace Go.Proofs.Ytamnfgpoelbgcaa
open Go.RowKit
set_option linter.unusedVariables false
set_option linter.unusedSimpArgs false

theorem bh_none {l : List Sc} {x : Int} (h : (l.any fun s => decide (x < s.a)) = false) : bh l x = l.length := by
  unfold bh
  rw [List.any_eq_false] at h
  exact List.findIdx_eq_length.2 fun y hy => by simpa using h y hy
section
variable {w : World} {A : Option Addr} {l : List Sc} (cap : Nat)
theorem says_twice (s : Sc) (B : Nat) (hB : Sp3 w B 0 s) : SaysC 40 #[.pointer (some ⟨B, 0, none⟩)] l (isF · s) w :=
  fun W x hb _ => ctwice1_any x s B (hB.later hb)
theorem says_behind (x : Int) (B : Nat) (hB : w.cell? ⟨B, 0, none⟩ = some (.int .u64 x)) : SaysC 38 #[.pointer (some ⟨B, 0, none⟩)] l (fun s => decide (x < s.a)) w :=
  fun W s hb _ => cbehind1_any s x B ((hb.cell (p := ⟨B, 0, none⟩) (World.block_lt_of_cell? w _ hB)).trans hB)
theorem ctwice_any (s : Sc) (hr : CRow w w.heap.size A l) (hl : l.length ≤ 17592186044416) :
    Calls Try.prog 33 #[.slice A l.length cap, scv s] w fun e w' => e = .returned (.bool (tw l s)) ∧ Below w.heap.size w w' := by
  by_cases h1 : s.k = 1
  · have HT : Hid (tw l s = l.any (isF · s)) := Lib.hid (by unfold tw; rw [h1]; rfl)
    have HN : Hid (Sp3 (w.alloc (.cells #[.int .u64 s.a, .int .u8 s.k, .int .u64 s.t] 41)) w.heap.size 0 s) := Lib.hid (Sp3.new w s _)
    rw [HT.out]
    have HP : Hid ((fun x => isF x s) = fun x => isF x s) := Lib.hid rfl
    generalize hp : (fun x => isF x s) = p at HT
    have HPP := Lib.hid hp
    clear hp
    obtain ⟨a, k, t⟩ := s
    simp only at h1
    subst h1
    unfold scv
    simp only at *
    go_enter Try.func33, Try.ntmps33
    go_wp2_with fail
    go_at_call 39
    refine (ccontains_any cap 40 _ p eg_twice1 (hr.later (by repeat (first | exact Below.refl _ _ | assumption | (refine below_drewN ?_ _) | (refine Below.drew ?_) | (refine Below.alloc ?_ (by first | omega | (simp; omega) | simp) _) | (refine Below.setCell ?_ (by first | omega | (simp; omega) | simp) _) | (refine below_trans ?_ (by assumption) (by first | omega | (simp; omega) | simp))))) hl (by rw [← HPP.out]; exact says_twice _ _ HN.out)).mono ?_
    rintro e w1 ⟨rfl, hb_w1⟩
    go_wp2
    go_ret
    exact ⟨rfl, (by repeat (first | exact Below.refl _ _ | assumption | (refine below_drewN ?_ _) | (refine Below.drew ?_) | (refine Below.alloc ?_ (by first | omega | (simp; omega) | simp) _) | (refine Below.setCell ?_ (by first | omega | (simp; omega) | simp) _) | (refine below_trans ?_ (by assumption) (by first | omega | (simp; omega) | simp))))⟩
  · have d1 : (s.k == 1) = false := by simpa using h1
    have HT : Hid (tw l s = false) := Lib.hid (by unfold tw; rw [d1]; rfl)
    rw [HT.out]
    obtain ⟨a, k, t⟩ := s
    unfold scv
    simp only at *
    go_enter Try.func33, Try.ntmps33
    go_wp2
    go_ret
    exact ⟨rfl, (by repeat (first | exact Below.refl _ _ | assumption | (refine below_drewN ?_ _) | (refine Below.drew ?_) | (refine Below.alloc ?_ (by first | omega | (simp; omega) | simp) _) | (refine Below.setCell ?_ (by first | omega | (simp; omega) | simp) _) | (refine below_trans ?_ (by assumption) (by first | omega | (simp; omega) | simp))))⟩
theorem cbehind_any (x : Int) (hr : CRow w w.heap.size A l) (hl : l.length ≤ 17592186044416) :
    Calls Try.prog 25 #[.slice A l.length cap, .int .u64 x] w fun e w' => e = .returned (.int .i64 (bh l x : Nat)) ∧ Below w.heap.size w w' := by
  have HC := Lib.hid fun (w : World) (hr : CRow w w.heap.size A l) hB => cindex_any (w := w) cap 38 #[.pointer (some ⟨hB, 0, none⟩)] (fun s => decide (x < s.a)) eg_behind1 hr hl
  rcases h : l.any (fun s => decide (x < s.a)) with _ | _
  · have e1 : ixC l (fun s => decide (x < s.a)) = -1 := by unfold ixC; rw [h]; rfl
    have HX := Lib.hid (bh_none h)
    rw [HX.out]
    rw [e1] at HC
    clear e1 h
    go_enter Try.func25, Try.ntmps25
    go_wp2_with fail
    go_at_call 37
    refine (HC.out _ (hr.later (by repeat (first | exact Below.refl _ _ | assumption | (refine below_drewN ?_ _) | (refine Below.drew ?_) | (refine Below.alloc ?_ (by first | omega | (simp; omega) | simp) _) | (refine Below.setCell ?_ (by first | omega | (simp; omega) | simp) _) | (refine below_trans ?_ (by assumption) (by first | omega | (simp; omega) | simp))))) _ (says_behind x _ (by simp [go_sem]))).mono ?_
    rintro e w1 ⟨rfl, hb_w1⟩
    obtain ⟨hc_w1, hf_w1⟩ := bcell hb_w1; have hz_w1_w_0 : w.heap.size < w1.heap.size := (by have hzz := hb_w1.size; (try simp only [World.size_alloc, World.size_setCell, World.size_drew, World.heap_drewN] at hzz); omega); have hs_w1 := hb_w1.size; (try simp only [World.size_alloc, World.size_setCell, World.size_drew, World.heap_drewN] at hs_w1)
    go_wp2
    go_ret
    exact ⟨rfl, (by repeat (first | exact Below.refl _ _ | assumption | (refine below_drewN ?_ _) | (refine Below.drew ?_) | (refine Below.alloc ?_ (by first | omega | (simp; omega) | simp) _) | (refine Below.setCell ?_ (by first | omega | (simp; omega) | simp) _) | (refine below_trans ?_ (by assumption) (by first | omega | (simp; omega) | simp))))⟩
  · have e1 : ixC l (fun s => decide (x < s.a)) = ((bh l x : Nat) : Int) := by unfold ixC; rw [h]; rfl
    rw [e1] at HC
    generalize bh l x = n at HC ⊢
    clear e1 h
    have d1 : decide ((n : Int) < 0) = false := decide_eq_false (by omega)
    go_enter Try.func25, Try.ntmps25
    go_wp2_with fail
    go_at_call 37
    refine (HC.out _ (hr.later (by repeat (first | exact Below.refl _ _ | assumption | (refine below_drewN ?_ _) | (refine Below.drew ?_) | (refine Below.alloc ?_ (by first | omega | (simp; omega) | simp) _) | (refine Below.setCell ?_ (by first | omega | (simp; omega) | simp) _) | (refine below_trans ?_ (by assumption) (by first | omega | (simp; omega) | simp))))) _ (says_behind x _ (by simp [go_sem]))).mono ?_
    rintro e w1 ⟨rfl, hb_w1⟩
    obtain ⟨hc_w1, hf_w1⟩ := bcell hb_w1; have hz_w1_w_0 : w.heap.size < w1.heap.size := (by have hzz := hb_w1.size; (try simp only [World.size_alloc, World.size_setCell, World.size_drew, World.heap_drewN] at hzz); omega); have hs_w1 := hb_w1.size; (try simp only [World.size_alloc, World.size_setCell, World.size_drew, World.heap_drewN] at hs_w1)
    go_wp2
    go_ret
    exact ⟨rfl, (by repeat (first | exact Below.refl _ _ | assumption | (refine below_drewN ?_ _) | (refine Below.drew ?_) | (refine Below.alloc ?_ (by first | omega | (simp; omega) | simp) _) | (refine Below.setCell ?_ (by first | omega | (simp; omega) | simp) _) | (refine below_trans ?_ (by assumption) (by first | omega | (simp; omega) | simp))))⟩
theorem crefused_any (s : Sc) (hr : CRow w w.heap.size A l) (hl : l.length ≤ 17592186044416) :
    Calls Try.prog 23 #[.slice A l.length cap, scv s] w fun e w' => e = .returned (.int .i64 (refC l s)) ∧ Below w.heap.size w w' := by
  have HV := Lib.hid fun (w : World) => cvalid_any (w := w) s
  have HT := Lib.hid fun (w : World) hr => ctwice_any (w := w) (A := A) (l := l) cap s hr hl
  rcases h1 : okc s with _ | _
  · have HX : Hid (refC l s = 2) := Lib.hid (by unfold refC; rw [if_pos h1])
    rw [h1] at HV
    rw [HX.out]
    clear h1 HT
    obtain ⟨a, k, t⟩ := s
    unfold scv at *
    simp only at *
    go_enter Try.func23, Try.ntmps23
    go_wp2_with fail
    go_at_call 32
    refine (HV.out _).mono ?_
    rintro e w1 ⟨rfl, hb_w1⟩
    obtain ⟨hc_w1, hf_w1⟩ := bcell hb_w1; have hz_w1_w_0 : w.heap.size < w1.heap.size := (by have hzz := hb_w1.size; (try simp only [World.size_alloc, World.size_setCell, World.size_drew, World.heap_drewN] at hzz); omega); have hs_w1 := hb_w1.size; (try simp only [World.size_alloc, World.size_setCell, World.size_drew, World.heap_drewN] at hs_w1)
    go_wp2
    go_ret
    exact ⟨rfl, (by repeat (first | exact Below.refl _ _ | assumption | (refine below_drewN ?_ _) | (refine Below.drew ?_) | (refine Below.alloc ?_ (by first | omega | (simp; omega) | simp) _) | (refine Below.setCell ?_ (by first | omega | (simp; omega) | simp) _) | (refine below_trans ?_ (by assumption) (by first | omega | (simp; omega) | simp))))⟩
  · rcases h2 : tw l s with _ | _
    · by_cases h3 : l.length = 64
      · have HX : Hid (refC l s = 6) := Lib.hid (by unfold refC; rw [h1, h2]; simp [h3])
        have d3 : ((l.length : Int) == 64) = true := by simp; omega
        rw [h1] at HV
        rw [h2] at HT
        rw [HX.out]
        clear h1 h2 h3
        obtain ⟨a, k, t⟩ := s
        unfold scv at *
        simp only at *
        go_enter Try.func23, Try.ntmps23
        go_wp2_with fail
        go_at_call 32
        refine (HV.out _).mono ?_
        rintro e w1 ⟨rfl, hb_w1⟩
        obtain ⟨hc_w1, hf_w1⟩ := bcell hb_w1; have hz_w1_w_0 : w.heap.size < w1.heap.size := (by have hzz := hb_w1.size; (try simp only [World.size_alloc, World.size_setCell, World.size_drew, World.heap_drewN] at hzz); omega); have hs_w1 := hb_w1.size; (try simp only [World.size_alloc, World.size_setCell, World.size_drew, World.heap_drewN] at hs_w1)
        go_wp2_with fail
        go_at_call 33
        refine (HT.out _ (hr.later (by repeat (first | exact Below.refl _ _ | assumption | (refine below_drewN ?_ _) | (refine Below.drew ?_) | (refine Below.alloc ?_ (by first | omega | (simp; omega) | simp) _) | (refine Below.setCell ?_ (by first | omega | (simp; omega) | simp) _) | (refine below_trans ?_ (by assumption) (by first | omega | (simp; omega) | simp)))))).mono ?_
        rintro e w2 ⟨rfl, hb_w2⟩
        obtain ⟨hc_w2, hf_w2⟩ := bcell hb_w2; have hz_w2_w_0 : w.heap.size < w2.heap.size := (by have hzz := hb_w2.size; (try simp only [World.size_alloc, World.size_setCell, World.size_drew, World.heap_drewN] at hzz); omega); have hs_w2 := hb_w2.size; (try simp only [World.size_alloc, World.size_setCell, World.size_drew, World.heap_drewN] at hs_w2)
        go_wp2
        go_ret
        exact ⟨rfl, (by repeat (first | exact Below.refl _ _ | assumption | (refine below_drewN ?_ _) | (refine Below.drew ?_) | (refine Below.alloc ?_ (by first | omega | (simp; omega) | simp) _) | (refine Below.setCell ?_ (by first | omega | (simp; omega) | simp) _) | (refine below_trans ?_ (by assumption) (by first | omega | (simp; omega) | simp))))⟩
      · have HX : Hid (refC l s = 0) := Lib.hid (by unfold refC; rw [h1, h2]; simp [h3])
        have d3 : ((l.length : Int) == 64) = false := by simp; omega
        rw [h1] at HV
        rw [h2] at HT
        rw [HX.out]
        clear h1 h2 h3
        obtain ⟨a, k, t⟩ := s
        unfold scv at *
        simp only at *
        go_enter Try.func23, Try.ntmps23
        go_wp2_with fail
        go_at_call 32
        refine (HV.out _).mono ?_
        rintro e w1 ⟨rfl, hb_w1⟩
        obtain ⟨hc_w1, hf_w1⟩ := bcell hb_w1; have hz_w1_w_0 : w.heap.size < w1.heap.size := (by have hzz := hb_w1.size; (try simp only [World.size_alloc, World.size_setCell, World.size_drew, World.heap_drewN] at hzz); omega); have hs_w1 := hb_w1.size; (try simp only [World.size_alloc, World.size_setCell, World.size_drew, World.heap_drewN] at hs_w1)
        go_wp2_with fail
        go_at_call 33
        refine (HT.out _ (hr.later (by repeat (first | exact Below.refl _ _ | assumption | (refine below_drewN ?_ _) | (refine Below.drew ?_) | (refine Below.alloc ?_ (by first | omega | (simp; omega) | simp) _) | (refine Below.setCell ?_ (by first | omega | (simp; omega) | simp) _) | (refine below_trans ?_ (by assumption) (by first | omega | (simp; omega) | simp)))))).mono ?_
        rintro e w2 ⟨rfl, hb_w2⟩
        obtain ⟨hc_w2, hf_w2⟩ := bcell hb_w2; have hz_w2_w_0 : w.heap.size < w2.heap.size := (by have hzz := hb_w2.size; (try simp only [World.size_alloc, World.size_setCell, World.size_drew, World.heap_drewN] at hzz); omega); have hs_w2 := hb_w2.size; (try simp only [World.size_alloc, World.size_setCell, World.size_drew, World.heap_drewN] at hs_w2)
        go_wp2
        go_ret
        exact ⟨rfl, (by repeat (first | exact Below.refl _ _ | assumption | (refine below_drewN ?_ _) | (refine Below.drew ?_) | (refine Below.alloc ?_ (by first | omega | (simp; omega) | simp) _) | (refine Below.setCell ?_ (by first | omega | (simp; omega) | simp) _) | (refine below_trans ?_ (by assumption) (by first | omega | (simp; omega) | simp))))⟩
    · have HX : Hid (refC l s = 4) := Lib.hid (by unfold refC; rw [h1, h2]; rfl)
      rw [h1] at HV
      rw [h2] at HT
      rw [HX.out]
      clear h1 h2
      obtain ⟨a, k, t⟩ := s
      unfold scv at *
      simp only at *
      go_enter Try.func23, Try.ntmps23
      go_wp2_with fail
      go_at_call 32
      refine (HV.out _).mono ?_
      rintro e w1 ⟨rfl, hb_w1⟩
      obtain ⟨hc_w1, hf_w1⟩ := bcell hb_w1; have hz_w1_w_0 : w.heap.size < w1.heap.size := (by have hzz := hb_w1.size; (try simp only [World.size_alloc, World.size_setCell, World.size_drew, World.heap_drewN] at hzz); omega); have hs_w1 := hb_w1.size; (try simp only [World.size_alloc, World.size_setCell, World.size_drew, World.heap_drewN] at hs_w1)
      go_wp2_with fail
      go_at_call 33
      refine (HT.out _ (hr.later (by repeat (first | exact Below.refl _ _ | assumption | (refine below_drewN ?_ _) | (refine Below.drew ?_) | (refine Below.alloc ?_ (by first | omega | (simp; omega) | simp) _) | (refine Below.setCell ?_ (by first | omega | (simp; omega) | simp) _) | (refine below_trans ?_ (by assumption) (by first | omega | (simp; omega) | simp)))))).mono ?_
      rintro e w2 ⟨rfl, hb_w2⟩
      obtain ⟨hc_w2, hf_w2⟩ := bcell hb_w2; have hz_w2_w_0 : w.heap.size < w2.heap.size := (by have hzz := hb_w2.size; (try simp only [World.size_alloc, World.size_setCell, World.size_drew, World.heap_drewN] at hzz); omega); have hs_w2 := hb_w2.size; (try simp only [World.size_alloc, World.size_setCell, World.size_drew, World.heap_drewN] at hs_w2)
      go_wp2
      go_ret
      exact ⟨rfl, (by repeat (first | exact Below.refl _ _ | assumption | (refine below_drewN ?_ _) | (refine Below.drew ?_) | (refine Below.alloc ?_ (by first | omega | (simp; omega) | simp) _) | (refine Below.setCell ?_ (by first | omega | (simp; omega) | simp) _) | (refine below_trans ?_ (by assumption) (by first | omega | (simp; omega) | simp))))⟩
end
end Go.Proofs.Ytamnfgpoelbgcaa
