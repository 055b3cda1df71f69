/- Contracts: what two have in common, as the document's own answers say. -/
import Derived.Test.YtbhblffomlhopaaBoth
namespace Go.Proofs.Ytbhblffomlhopaa
open Go.RowKit
set_option linter.unusedVariables false
set_option linter.unusedSimpArgs false

section
variable {n m : Int} {A C : Option Addr} {ws us : List Nat} {w : World} (cap cap' : Nat)
theorem rboth_bad1 (hr : Row w w.heap.size A ws) (h : ¬ Right n ws) :
    Calls Try.prog 36 #[.agg #[.int .i64 n, .slice A ws.length cap], .agg #[.int .i64 m, .slice C us.length cap']] w fun e w' => Fresh w 0 [] 2 e w' := by
  have hR := Lib.hid h
  clear h
  go_enter Try.func36, Try.ntmps36
  go_wp2_with (go_at_call 20; refine (rcheck_bad _ (hr.later (by repeat (first | exact Below.refl _ _ | assumption | (refine below_drewN ?_ _) | (refine Below.drew ?_) | (refine Below.alloc ?_ (by first | omega | (simp; omega) | simp) _) | (refine Below.setCell ?_ (by first | omega | (simp; omega) | simp) _) | (refine below_trans ?_ (by assumption) (by first | omega | (simp; omega) | simp))))) hR.out).mono ?_; rintro e w1 ⟨rfl, hb_w1⟩; obtain ⟨hc_w1, hf_w1⟩ := bcell hb_w1; have hz_w1_w_0 : w.heap.size < w1.heap.size := (by have hzz := hb_w1.size; (try simp only [World.size_alloc, World.size_setCell, World.size_drew, World.heap_drewN] at hzz); omega); have hz_w1_w_1 : w.heap.size + 1 < w1.heap.size := (by have hzz := hb_w1.size; (try simp only [World.size_alloc, World.size_setCell, World.size_drew, World.heap_drewN] at hzz); omega); have hz_w1_w_2 : w.heap.size + 2 < w1.heap.size := (by have hzz := hb_w1.size; (try simp only [World.size_alloc, World.size_setCell, World.size_drew, World.heap_drewN] at hzz); omega))
  have t2 : Two w1 (w.heap.size + 2) _ _ := (Two.new2 w _ _ _ _ _).below hb_w1 (by first | omega | (simp; omega) | simp)
  exact bodyPost_ret (res_bits rfl rfl (t2.set_ _ _).c0 (t2.set_ _ _).c1) rfl ⟨none, 0, rfl, Own.nil _ _, (by repeat (first | exact Below.refl _ _ | assumption | (refine below_drewN ?_ _) | (refine Below.drew ?_) | (refine Below.alloc ?_ (by first | omega | (simp; omega) | simp) _) | (refine Below.setCell ?_ (by first | omega | (simp; omega) | simp) _) | (refine below_trans ?_ (by assumption) (by first | omega | (simp; omega) | simp))))⟩
theorem rboth_bad2 (hr : Row w w.heap.size A ws) (hs : Row w w.heap.size C us) (h : Right n ws) (h' : ¬ Right m us) :
    Calls Try.prog 36 #[.agg #[.int .i64 n, .slice A ws.length cap], .agg #[.int .i64 m, .slice C us.length cap']] w fun e w' => Fresh w 0 [] 2 e w' := by
  have hR := Lib.hid h
  have hR' := Lib.hid h'
  clear h h'
  go_enter Try.func36, Try.ntmps36
  go_wp2_with fail
  go_at_call 20
  refine (rcheck_ok _ (hr.later (by repeat (first | exact Below.refl _ _ | assumption | (refine below_drewN ?_ _) | (refine Below.drew ?_) | (refine Below.alloc ?_ (by first | omega | (simp; omega) | simp) _) | (refine Below.setCell ?_ (by first | omega | (simp; omega) | simp) _) | (refine below_trans ?_ (by assumption) (by first | omega | (simp; omega) | simp))))) hR.out).mono ?_
  rintro e w1 ⟨rfl, hb_w1⟩
  obtain ⟨hc_w1, hf_w1⟩ := bcell hb_w1; have hz_w1_w_0 : w.heap.size < w1.heap.size := (by have hzz := hb_w1.size; (try simp only [World.size_alloc, World.size_setCell, World.size_drew, World.heap_drewN] at hzz); omega); have hz_w1_w_1 : w.heap.size + 1 < w1.heap.size := (by have hzz := hb_w1.size; (try simp only [World.size_alloc, World.size_setCell, World.size_drew, World.heap_drewN] at hzz); omega); have hz_w1_w_2 : w.heap.size + 2 < w1.heap.size := (by have hzz := hb_w1.size; (try simp only [World.size_alloc, World.size_setCell, World.size_drew, World.heap_drewN] at hzz); omega)
  go_wp2_with fail
  go_at_call 20
  refine (rcheck_bad _ (hs.later (by repeat (first | exact Below.refl _ _ | assumption | (refine below_drewN ?_ _) | (refine Below.drew ?_) | (refine Below.alloc ?_ (by first | omega | (simp; omega) | simp) _) | (refine Below.setCell ?_ (by first | omega | (simp; omega) | simp) _) | (refine below_trans ?_ (by assumption) (by first | omega | (simp; omega) | simp))))) hR'.out).mono ?_
  rintro e w2 ⟨rfl, hb_w2⟩
  obtain ⟨hc_w2, hf_w2⟩ := bcell hb_w2; have hz_w2_w_0 : w.heap.size < w2.heap.size := (by have hzz := hb_w2.size; (try simp only [World.size_alloc, World.size_setCell, World.size_drew, World.heap_drewN] at hzz); omega); have hz_w2_w_1 : w.heap.size + 1 < w2.heap.size := (by have hzz := hb_w2.size; (try simp only [World.size_alloc, World.size_setCell, World.size_drew, World.heap_drewN] at hzz); omega); have hz_w2_w_2 : w.heap.size + 2 < w2.heap.size := (by have hzz := hb_w2.size; (try simp only [World.size_alloc, World.size_setCell, World.size_drew, World.heap_drewN] at hzz); omega)
  go_wp2
  have t2 : Two w1 (w.heap.size + 2) _ _ := (Two.new2 w _ _ _ _ _).below hb_w1 (by first | omega | (simp; omega) | simp)
  have t3 := t2.below hb_w2 (by first | omega | (simp; omega) | simp)
  exact bodyPost_ret (res_bits rfl rfl (t3.set_ _ _).c0 (t3.set_ _ _).c1) rfl ⟨none, 0, rfl, Own.nil _ _, (by repeat (first | exact Below.refl _ _ | assumption | (refine below_drewN ?_ _) | (refine Below.drew ?_) | (refine Below.alloc ?_ (by first | omega | (simp; omega) | simp) _) | (refine Below.setCell ?_ (by first | omega | (simp; omega) | simp) _) | (refine below_trans ?_ (by assumption) (by first | omega | (simp; omega) | simp))))⟩
theorem rboth_len (hr : Row w w.heap.size A ws) (hs : Row w w.heap.size C us) (h : Right n ws) (h' : Right m us) (hne : n ≠ m) :
    Calls Try.prog 36 #[.agg #[.int .i64 n, .slice A ws.length cap], .agg #[.int .i64 m, .slice C us.length cap']] w fun e w' => Fresh w 0 [] 2 e w' := by
  have hR := Lib.hid h
  have hR' := Lib.hid h'
  have hd : (n != m) = true := by simpa using hne
  clear h h' hne
  go_enter Try.func36, Try.ntmps36
  go_wp2_with fail
  go_at_call 20
  refine (rcheck_ok _ (hr.later (by repeat (first | exact Below.refl _ _ | assumption | (refine below_drewN ?_ _) | (refine Below.drew ?_) | (refine Below.alloc ?_ (by first | omega | (simp; omega) | simp) _) | (refine Below.setCell ?_ (by first | omega | (simp; omega) | simp) _) | (refine below_trans ?_ (by assumption) (by first | omega | (simp; omega) | simp))))) hR.out).mono ?_
  rintro e w1 ⟨rfl, hb_w1⟩
  obtain ⟨hc_w1, hf_w1⟩ := bcell hb_w1; have hz_w1_w_0 : w.heap.size < w1.heap.size := (by have hzz := hb_w1.size; (try simp only [World.size_alloc, World.size_setCell, World.size_drew, World.heap_drewN] at hzz); omega); have hz_w1_w_1 : w.heap.size + 1 < w1.heap.size := (by have hzz := hb_w1.size; (try simp only [World.size_alloc, World.size_setCell, World.size_drew, World.heap_drewN] at hzz); omega); have hz_w1_w_2 : w.heap.size + 2 < w1.heap.size := (by have hzz := hb_w1.size; (try simp only [World.size_alloc, World.size_setCell, World.size_drew, World.heap_drewN] at hzz); omega)
  go_wp2_with fail
  go_at_call 20
  refine (rcheck_ok _ (hs.later (by repeat (first | exact Below.refl _ _ | assumption | (refine below_drewN ?_ _) | (refine Below.drew ?_) | (refine Below.alloc ?_ (by first | omega | (simp; omega) | simp) _) | (refine Below.setCell ?_ (by first | omega | (simp; omega) | simp) _) | (refine below_trans ?_ (by assumption) (by first | omega | (simp; omega) | simp))))) hR'.out).mono ?_
  rintro e w2 ⟨rfl, hb_w2⟩
  obtain ⟨hc_w2, hf_w2⟩ := bcell hb_w2; have hz_w2_w_0 : w.heap.size < w2.heap.size := (by have hzz := hb_w2.size; (try simp only [World.size_alloc, World.size_setCell, World.size_drew, World.heap_drewN] at hzz); omega); have hz_w2_w_1 : w.heap.size + 1 < w2.heap.size := (by have hzz := hb_w2.size; (try simp only [World.size_alloc, World.size_setCell, World.size_drew, World.heap_drewN] at hzz); omega); have hz_w2_w_2 : w.heap.size + 2 < w2.heap.size := (by have hzz := hb_w2.size; (try simp only [World.size_alloc, World.size_setCell, World.size_drew, World.heap_drewN] at hzz); omega)
  go_wp2
  have t2 : Two w1 (w.heap.size + 2) _ _ := (Two.new2 w _ _ _ _ _).below hb_w1 (by first | omega | (simp; omega) | simp)
  have t3 := t2.below hb_w2 (by first | omega | (simp; omega) | simp)
  exact bodyPost_ret (res_bits rfl rfl (t3.set_ _ _).c0 (t3.set_ _ _).c1) rfl ⟨none, 0, rfl, Own.nil _ _, (by repeat (first | exact Below.refl _ _ | assumption | (refine below_drewN ?_ _) | (refine Below.drew ?_) | (refine Below.alloc ?_ (by first | omega | (simp; omega) | simp) _) | (refine Below.setCell ?_ (by first | omega | (simp; omega) | simp) _) | (refine below_trans ?_ (by assumption) (by first | omega | (simp; omega) | simp))))⟩
set_option maxHeartbeats 1000000 in
theorem rboth_ok' (hr : Row w w.heap.size A ws) (hs : Row w w.heap.size C us) (h : Right n ws) (h' : Right n us) :
    Calls Try.prog 36 #[.agg #[.int .i64 n, .slice A ws.length cap], .agg #[.int .i64 n, .slice C us.length cap']] w fun e w' => Fresh w n (bothTo ws us ws.length) 0 e w' := by
  have hR := Lib.hid h
  have hR' := Lib.hid h'
  have HL := Lib.hid (right_same h h')
  have hl2 := right_len h
  have hl3 : ws.length ≤ 17592186044416 := by omega
  have hd : (n != n) = false := by simp
  clear h h'
  go_enter Try.func36, Try.ntmps36
  go_wp2_with fail
  go_at_call 20
  refine (rcheck_ok _ (hr.later (by repeat (first | exact Below.refl _ _ | assumption | (refine below_drewN ?_ _) | (refine Below.drew ?_) | (refine Below.alloc ?_ (by first | omega | (simp; omega) | simp) _) | (refine Below.setCell ?_ (by first | omega | (simp; omega) | simp) _) | (refine below_trans ?_ (by assumption) (by first | omega | (simp; omega) | simp))))) hR.out).mono ?_
  rintro e w1 ⟨rfl, hb_w1⟩
  obtain ⟨hc_w1, hf_w1⟩ := bcell hb_w1; have hz_w1_w_0 : w.heap.size < w1.heap.size := (by have hzz := hb_w1.size; (try simp only [World.size_alloc, World.size_setCell, World.size_drew, World.heap_drewN] at hzz); omega); have hz_w1_w_1 : w.heap.size + 1 < w1.heap.size := (by have hzz := hb_w1.size; (try simp only [World.size_alloc, World.size_setCell, World.size_drew, World.heap_drewN] at hzz); omega); have hz_w1_w_2 : w.heap.size + 2 < w1.heap.size := (by have hzz := hb_w1.size; (try simp only [World.size_alloc, World.size_setCell, World.size_drew, World.heap_drewN] at hzz); omega)
  go_wp2_with fail
  go_at_call 20
  refine (rcheck_ok _ (hs.later (by repeat (first | exact Below.refl _ _ | assumption | (refine below_drewN ?_ _) | (refine Below.drew ?_) | (refine Below.alloc ?_ (by first | omega | (simp; omega) | simp) _) | (refine Below.setCell ?_ (by first | omega | (simp; omega) | simp) _) | (refine below_trans ?_ (by assumption) (by first | omega | (simp; omega) | simp))))) hR'.out).mono ?_
  rintro e w2 ⟨rfl, hb_w2⟩
  obtain ⟨hc_w2, hf_w2⟩ := bcell hb_w2; have hz_w2_w_0 : w.heap.size < w2.heap.size := (by have hzz := hb_w2.size; (try simp only [World.size_alloc, World.size_setCell, World.size_drew, World.heap_drewN] at hzz); omega); have hz_w2_w_1 : w.heap.size + 1 < w2.heap.size := (by have hzz := hb_w2.size; (try simp only [World.size_alloc, World.size_setCell, World.size_drew, World.heap_drewN] at hzz); omega); have hz_w2_w_2 : w.heap.size + 2 < w2.heap.size := (by have hzz := hb_w2.size; (try simp only [World.size_alloc, World.size_setCell, World.size_drew, World.heap_drewN] at hzz); omega)
  go_wp2_with fail
  go_at_call 21
  refine (copy_any _ _ (hr.later (w' := w2) (by repeat (first | exact Below.refl _ _ | assumption | (refine below_drewN ?_ _) | (refine Below.drew ?_) | (refine Below.alloc ?_ (by first | omega | (simp; omega) | simp) _) | (refine Below.setCell ?_ (by first | omega | (simp; omega) | simp) _) | (refine below_trans ?_ (by assumption) (by first | omega | (simp; omega) | simp))))) hl3).mono ?_
  rintro e w3 ⟨A1, cap1, rfl, ho3, hb_w3⟩
  obtain ⟨hc_w3, hf_w3⟩ := bcell hb_w3; have hz_w3_w_0 : w.heap.size < w3.heap.size := (by have hzz := hb_w3.size; (try simp only [World.size_alloc, World.size_setCell, World.size_drew, World.heap_drewN] at hzz); omega); have hz_w3_w_1 : w.heap.size + 1 < w3.heap.size := (by have hzz := hb_w3.size; (try simp only [World.size_alloc, World.size_setCell, World.size_drew, World.heap_drewN] at hzz); omega); have hz_w3_w_2 : w.heap.size + 2 < w3.heap.size := (by have hzz := hb_w3.size; (try simp only [World.size_alloc, World.size_setCell, World.size_drew, World.heap_drewN] at hzz); omega)
  simp only [World.size_alloc] at hb_w1
  have a0 : Two w3 w.heap.size (.int .i64 n) (.slice A ws.length cap) := (((((Two.new w _ _ _).old (by first | omega | (simp; omega) | simp) _).old (by first | omega | (simp; omega) | simp) _).below hb_w1 (by first | omega | (simp; omega) | simp)).below hb_w2 (by first | omega | (simp; omega) | simp)).below hb_w3 (by first | omega | (simp; omega) | simp)
  have a1 : Two w3 (w.heap.size + 1) (.int .i64 n) (.slice C us.length cap') := ((((Two.new1 w _ _ _ _).old (by first | omega | (simp; omega) | simp) _).below hb_w1 (by first | omega | (simp; omega) | simp)).below hb_w2 (by first | omega | (simp; omega) | simp)).below hb_w3 (by first | omega | (simp; omega) | simp)
  have a2 : Two w3 (w.heap.size + 2) (.int .i64 0) (.slice none 0 0) := (((Two.new2 w _ _ _ _ _).below hb_w1 (by first | omega | (simp; omega) | simp)).below hb_w2 (by first | omega | (simp; omega) | simp)).below hb_w3 (by first | omega | (simp; omega) | simp)
  obtain ⟨q0, q1, _⟩ := id a0
  have s0 : ∀ V, (w3.setCell ⟨w.heap.size, 0, none⟩ V).cell? ⟨w.heap.size, 0, none⟩ = some V := fun V => World.cell?_setCell_same _ _ _ q0
  have s1 : ∀ V V', ((w3.setCell ⟨w.heap.size, 0, none⟩ V).setCell ⟨w.heap.size, 1, none⟩ V').cell? ⟨w.heap.size, 1, none⟩ = some V' := fun V V' => (set_two V V' q0 q1).2
  go_wp2
  go_loopw [28] (fun i wr => ∃ k : Nat, i = .int .i64 k ∧ k ≤ ws.length ∧ Own wr (w.heap.size + 3) A1 (bothTo ws us k) ∧ Two wr w.heap.size (.int .i64 n) (.slice A1 ws.length cap1) ∧ Two wr (w.heap.size + 1) (.int .i64 n) (.slice C us.length cap') ∧ Two wr (w.heap.size + 2) (.int .i64 0) (.slice none 0 0) ∧
      Below w.heap.size w wr) (fun i _ => ws.length - (intOf i).toNat)
  case atStart => exact ⟨0, rfl, Nat.zero_le _, (ho3.two (by first | omega | (simp; omega) | simp)).mono (by first | omega | (simp; omega) | simp), a0.set_ _ _, a1.far (by first | omega | (simp; omega) | simp) _ _, a2.far (by first | omega | (simp; omega) | simp) _ _, (by repeat (first | exact Below.refl _ _ | assumption | (refine below_drewN ?_ _) | (refine Below.drew ?_) | (refine Below.alloc ?_ (by first | omega | (simp; omega) | simp) _) | (refine Below.setCell ?_ (by first | omega | (simp; omega) | simp) _) | (refine below_trans ?_ (by assumption) (by first | omega | (simp; omega) | simp))))⟩
  case round =>
    obtain ⟨k, rfl, hk, hO, hT0, hT1, hT2, hb_wr⟩ := hrel
    obtain ⟨hc_wr, hf_wr⟩ := bcell hb_wr
    obtain ⟨x0, x1, xf⟩ := id hT0
    obtain ⟨y0, y1, yf⟩ := id hT1
    obtain ⟨z0, z1, zf⟩ := id hT2
    by_cases hlt : k < ws.length
    · obtain ⟨b, off, rfl, hb, hcc⟩ := hs.at_ (by have := HL.out; omega)
      obtain ⟨g, rfl, hBg, hg, _⟩ := ho3.at_ (by omega)
      have HB := Lib.hid (length_bothTo ws us k)
      obtain ⟨g', hA', hBg', _, hcg⟩ := hO.at_ (by have := HB.out; omega)
      injection hA' with hA'
      injection hA' with hA'
      subst hA'
      obtain ⟨hcx, hfx⟩ := hcg k (by have := HB.out; omega)
      have hcy := (hc_wr _ _ hb).trans (hcc k (by have := HL.out; omega))
      rw [bothTo_at, if_neg (by omega)] at hcx
      obtain ⟨x, hx⟩ := named ws k
      obtain ⟨y, hy⟩ := named us k
      rw [hx.out] at hcx
      rw [hy.out] at hcy
      have hX := and_form x y (by rw [← hx.out]; exact hr.words.at_ _) (by rw [← hy.out]; exact hs.words.at_ _)
      have hlA : k < us.length := by have := HL.out; omega
      clear hcg hcc hc_wr hf_wr s0 s1
      go_wp2
      go_region
      all_goals
        go_wp2
        go_roundw
        case rel =>
          have hP := (hO.set_ (i := k) (x := x &&& y) rfl (by have := HB.out; omega) (Nat.lt_of_le_of_lt Nat.and_le_left (by rw [← hx.out]; exact hr.words.at_ _))).drewN 1
          exact ⟨k + 1, by go_num, by omega, by unfold bothTo; rw [hx.out, hy.out]; exact hP, ⟨(World.cell?_setCell_other _ _ _ _ (by intro e; injection e; omega)).trans x0, (World.cell?_setCell_other _ _ _ _ (by intro e; injection e; omega)).trans x1, fun i => by rw [World.frozen?_drew, World.frozen?_setCell]; exact xf i⟩,
            ⟨(World.cell?_setCell_other _ _ _ _ (by intro e; injection e; omega)).trans y0, (World.cell?_setCell_other _ _ _ _ (by intro e; injection e; omega)).trans y1, fun i => by rw [World.frozen?_drew, World.frozen?_setCell]; exact yf i⟩,
            ⟨(World.cell?_setCell_other _ _ _ _ (by intro e; injection e; omega)).trans z0, (World.cell?_setCell_other _ _ _ _ (by intro e; injection e; omega)).trans z1, fun i => by rw [World.frozen?_drew, World.frozen?_setCell]; exact zf i⟩, (by repeat (first | exact Below.refl _ _ | assumption | (refine below_drewN ?_ _) | (refine Below.drew ?_) | (refine Below.alloc ?_ (by first | omega | (simp; omega) | simp) _) | (refine Below.setCell ?_ (by first | omega | (simp; omega) | simp) _) | (refine below_trans ?_ (by assumption) (by first | omega | (simp; omega) | simp))))⟩
        case measure => simp [intOf]; omega
    · obtain rfl : k = ws.length := by omega
      go_wp2
      exact bodyPost_ret (res_bits rfl rfl (hT2.set_ _ _).c0 (hT2.set_ _ _).c1) rfl ⟨A1, cap1, by rw [length_bothTo]; rfl, (hO.two (g := w.heap.size + 2) (by first | omega | (simp; omega) | simp)).mono (by first | omega | (simp; omega) | simp), (by repeat (first | exact Below.refl _ _ | assumption | (refine below_drewN ?_ _) | (refine Below.drew ?_) | (refine Below.alloc ?_ (by first | omega | (simp; omega) | simp) _) | (refine Below.setCell ?_ (by first | omega | (simp; omega) | simp) _) | (refine below_trans ?_ (by assumption) (by first | omega | (simp; omega) | simp))))⟩
theorem rboth_ok (hr : Row w w.heap.size A ws) (hs : Row w w.heap.size C us) (h : Right n ws) (h' : Right n us) :
    Calls Try.prog 36 #[.agg #[.int .i64 n, .slice A ws.length cap], .agg #[.int .i64 n, .slice C us.length cap']] w fun e w' => Fresh w n (bothTo ws us us.length) 0 e w' := by
  have := rboth_ok' cap cap' hr hs h h'
  refine this.mono fun e w' hf => ?_
  rwa [right_same h h'] at hf
end
end Go.Proofs.Ytbhblffomlhopaa
