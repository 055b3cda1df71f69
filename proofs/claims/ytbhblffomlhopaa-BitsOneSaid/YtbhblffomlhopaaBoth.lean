/- Contracts: what two have in common. -/
import Derived.Test.YtbhblffomlhopaaRFill
import Derived.Test.YtbhblffomlhopaaSpec
namespace Go.Proofs.Ytbhblffomlhopaa
open Go.RowKit
set_option linter.unusedVariables false
set_option linter.unusedSimpArgs false

theorem Two.new1 (w : World) (o : Obj) (v0 v1 : Value) (t : TypeId) : Two ((w.alloc o).alloc (.cells #[v0, v1] t)) (w.heap.size + 1) v0 v1 := by
  have h := Two.new (w.alloc o) v0 v1 t
  rwa [World.size_alloc] at h
theorem Two.new2 (w : World) (o o' : Obj) (v0 v1 : Value) (t : TypeId) : Two (((w.alloc o).alloc o').alloc (.cells #[v0, v1] t)) (w.heap.size + 2) v0 v1 := by
  have h := Two.new1 (w.alloc o) o' v0 v1 t
  rwa [World.size_alloc] at h

section
variable {n m : Int} {A C : Option Addr} {ws us : List Nat} {w : World} (cap cap' : Nat)
theorem both_bad1 (hr : Row w w.heap.size A ws) (h : ¬ Right n ws) :
    Calls Try.prog 35 #[.agg #[.int .i64 n, .slice A ws.length cap], .agg #[.int .i64 m, .slice C us.length cap']] w fun e w' => Fresh w 0 [] 2 e w' := by
  have hR := Lib.hid h
  clear h
  go_enter Try.func35, Try.ntmps35
  go_wp2_with (go_at_call 53; refine (twin_bad _ (hr.later (by repeat (first | exact Below.refl _ _ | assumption | (refine below_drewN ?_ _) | (refine Below.drew ?_) | (refine Below.alloc ?_ (by first | omega | (simp; omega) | simp) _) | (refine Below.setCell ?_ (by first | omega | (simp; omega) | simp) _) | (refine below_trans ?_ (by assumption) (by first | omega | (simp; omega) | simp))))) hR.out).mono ?_; rintro e w1 ⟨A1, cap1, rfl, ho1, hb_w1⟩; obtain ⟨hc_w1, hf_w1⟩ := bcell hb_w1; have hz_w1_w_0 : w.heap.size < w1.heap.size := (by have hzz := hb_w1.size; (try simp only [World.size_alloc, World.size_setCell, World.size_drew, World.heap_drewN] at hzz); omega); have hz_w1_w_1 : w.heap.size + 1 < w1.heap.size := (by have hzz := hb_w1.size; (try simp only [World.size_alloc, World.size_setCell, World.size_drew, World.heap_drewN] at hzz); omega); have hz_w1_w_2 : w.heap.size + 2 < w1.heap.size := (by have hzz := hb_w1.size; (try simp only [World.size_alloc, World.size_setCell, World.size_drew, World.heap_drewN] at hzz); omega))
  have t2 : Two w1 (w.heap.size + 2) _ _ := (Two.new2 w _ _ _ _ _).below hb_w1 (by first | omega | (simp; omega) | simp)
  exact bodyPost_ret (res_bits rfl rfl ((t2.set_ _ _).old (by first | omega | (simp; omega) | simp) _).c0 ((t2.set_ _ _).old (by first | omega | (simp; omega) | simp) _).c1) rfl ⟨none, 0, rfl, Own.nil _ _, (by repeat (first | exact Below.refl _ _ | assumption | (refine below_drewN ?_ _) | (refine Below.drew ?_) | (refine Below.alloc ?_ (by first | omega | (simp; omega) | simp) _) | (refine Below.setCell ?_ (by first | omega | (simp; omega) | simp) _) | (refine below_trans ?_ (by assumption) (by first | omega | (simp; omega) | simp))))⟩
theorem both_bad2 (hr : Row w w.heap.size A ws) (hs : Row w w.heap.size C us) (h : Right n ws) (h' : ¬ Right m us) :
    Calls Try.prog 35 #[.agg #[.int .i64 n, .slice A ws.length cap], .agg #[.int .i64 m, .slice C us.length cap']] w fun e w' => Fresh w 0 [] 2 e w' := by
  have hR := Lib.hid h
  have hR' := Lib.hid h'
  clear h h'
  go_enter Try.func35, Try.ntmps35
  go_wp2_with (first
    | (go_at_call 53; refine (twin_ok _ (hr.later (by repeat (first | exact Below.refl _ _ | assumption | (refine below_drewN ?_ _) | (refine Below.drew ?_) | (refine Below.alloc ?_ (by first | omega | (simp; omega) | simp) _) | (refine Below.setCell ?_ (by first | omega | (simp; omega) | simp) _) | (refine below_trans ?_ (by assumption) (by first | omega | (simp; omega) | simp))))) hR.out).mono ?_; rintro e w1 ⟨A1, cap1, rfl, ho1, hb_w1⟩; obtain ⟨hc_w1, hf_w1⟩ := bcell hb_w1; have hz_w1_w_0 : w.heap.size < w1.heap.size := (by have hzz := hb_w1.size; (try simp only [World.size_alloc, World.size_setCell, World.size_drew, World.heap_drewN] at hzz); omega); have hz_w1_w_1 : w.heap.size + 1 < w1.heap.size := (by have hzz := hb_w1.size; (try simp only [World.size_alloc, World.size_setCell, World.size_drew, World.heap_drewN] at hzz); omega); have hz_w1_w_2 : w.heap.size + 2 < w1.heap.size := (by have hzz := hb_w1.size; (try simp only [World.size_alloc, World.size_setCell, World.size_drew, World.heap_drewN] at hzz); omega))
    | (go_at_call 49; refine (view_bad _ (hs.later (by repeat (first | exact Below.refl _ _ | assumption | (refine below_drewN ?_ _) | (refine Below.drew ?_) | (refine Below.alloc ?_ (by first | omega | (simp; omega) | simp) _) | (refine Below.setCell ?_ (by first | omega | (simp; omega) | simp) _) | (refine below_trans ?_ (by assumption) (by first | omega | (simp; omega) | simp))))) hR'.out).mono ?_; rintro e w2 ⟨rfl, hb_w2⟩; obtain ⟨hc_w2, hf_w2⟩ := bcell hb_w2; have hz_w2_w_0 : w.heap.size < w2.heap.size := (by have hzz := hb_w2.size; (try simp only [World.size_alloc, World.size_setCell, World.size_drew, World.heap_drewN] at hzz); omega); have hz_w2_w_1 : w.heap.size + 1 < w2.heap.size := (by have hzz := hb_w2.size; (try simp only [World.size_alloc, World.size_setCell, World.size_drew, World.heap_drewN] at hzz); omega); have hz_w2_w_2 : w.heap.size + 2 < w2.heap.size := (by have hzz := hb_w2.size; (try simp only [World.size_alloc, World.size_setCell, World.size_drew, World.heap_drewN] at hzz); omega); have hz_w2_w1_0 : w1.heap.size < w2.heap.size := (by have hzz := hb_w2.size; (try simp only [World.size_alloc, World.size_setCell, World.size_drew, World.heap_drewN] at hzz); omega)))
  have t2 : Two w1 (w.heap.size + 2) _ _ := (Two.new2 w _ _ _ _ _).below hb_w1 (by first | omega | (simp; omega) | simp)
  have t3 : Two w2 (w.heap.size + 2) _ _ := (t2.old (by first | omega | (simp; omega) | simp) _).below hb_w2 (by first | omega | (simp; omega) | simp)
  exact bodyPost_ret (res_bits rfl rfl ((t3.set_ _ _).old (by first | omega | (simp; omega) | simp) _).c0 ((t3.set_ _ _).old (by first | omega | (simp; omega) | simp) _).c1) rfl ⟨none, 0, rfl, Own.nil _ _, (by repeat (first | exact Below.refl _ _ | assumption | (refine below_drewN ?_ _) | (refine Below.drew ?_) | (refine Below.alloc ?_ (by first | omega | (simp; omega) | simp) _) | (refine Below.setCell ?_ (by first | omega | (simp; omega) | simp) _) | (refine below_trans ?_ (by assumption) (by first | omega | (simp; omega) | simp))))⟩
theorem both_len (hr : Row w w.heap.size A ws) (hs : Row w w.heap.size C us) (h : Right n ws) (h' : Right m us) (hne : n ≠ m) :
    Calls Try.prog 35 #[.agg #[.int .i64 n, .slice A ws.length cap], .agg #[.int .i64 m, .slice C us.length cap']] w fun e w' => Fresh w 0 [] 2 e w' := by
  have hR := Lib.hid h
  have hR' := Lib.hid h'
  have hd : (n != m) = true := by simpa using hne
  clear h h' hne
  go_enter Try.func35, Try.ntmps35
  go_wp2_with (first
    | (go_at_call 53; refine (twin_ok _ (hr.later (by repeat (first | exact Below.refl _ _ | assumption | (refine below_drewN ?_ _) | (refine Below.drew ?_) | (refine Below.alloc ?_ (by first | omega | (simp; omega) | simp) _) | (refine Below.setCell ?_ (by first | omega | (simp; omega) | simp) _) | (refine below_trans ?_ (by assumption) (by first | omega | (simp; omega) | simp))))) hR.out).mono ?_; rintro e w1 ⟨A1, cap1, rfl, ho1, hb_w1⟩; obtain ⟨hc_w1, hf_w1⟩ := bcell hb_w1; have hz_w1_w_0 : w.heap.size < w1.heap.size := (by have hzz := hb_w1.size; (try simp only [World.size_alloc, World.size_setCell, World.size_drew, World.heap_drewN] at hzz); omega); have hz_w1_w_1 : w.heap.size + 1 < w1.heap.size := (by have hzz := hb_w1.size; (try simp only [World.size_alloc, World.size_setCell, World.size_drew, World.heap_drewN] at hzz); omega); have hz_w1_w_2 : w.heap.size + 2 < w1.heap.size := (by have hzz := hb_w1.size; (try simp only [World.size_alloc, World.size_setCell, World.size_drew, World.heap_drewN] at hzz); omega))
    | (go_at_call 49; refine (view_ok _ (hs.later (by repeat (first | exact Below.refl _ _ | assumption | (refine below_drewN ?_ _) | (refine Below.drew ?_) | (refine Below.alloc ?_ (by first | omega | (simp; omega) | simp) _) | (refine Below.setCell ?_ (by first | omega | (simp; omega) | simp) _) | (refine below_trans ?_ (by assumption) (by first | omega | (simp; omega) | simp))))) hR'.out).mono ?_; rintro e w2 ⟨rfl, hb_w2⟩; obtain ⟨hc_w2, hf_w2⟩ := bcell hb_w2; have hz_w2_w_0 : w.heap.size < w2.heap.size := (by have hzz := hb_w2.size; (try simp only [World.size_alloc, World.size_setCell, World.size_drew, World.heap_drewN] at hzz); omega); have hz_w2_w_1 : w.heap.size + 1 < w2.heap.size := (by have hzz := hb_w2.size; (try simp only [World.size_alloc, World.size_setCell, World.size_drew, World.heap_drewN] at hzz); omega); have hz_w2_w_2 : w.heap.size + 2 < w2.heap.size := (by have hzz := hb_w2.size; (try simp only [World.size_alloc, World.size_setCell, World.size_drew, World.heap_drewN] at hzz); omega); have hz_w2_w1_0 : w1.heap.size < w2.heap.size := (by have hzz := hb_w2.size; (try simp only [World.size_alloc, World.size_setCell, World.size_drew, World.heap_drewN] at hzz); omega)))
  have t2 : Two w1 (w.heap.size + 2) _ _ := (Two.new2 w _ _ _ _ _).below hb_w1 (by first | omega | (simp; omega) | simp)
  have t3 : Two w2 (w.heap.size + 2) _ _ := (t2.old (by first | omega | (simp; omega) | simp) _).below hb_w2 (by first | omega | (simp; omega) | simp)
  exact bodyPost_ret (res_bits rfl rfl ((t3.set_ _ _).old (by first | omega | (simp; omega) | simp) _).c0 ((t3.set_ _ _).old (by first | omega | (simp; omega) | simp) _).c1) rfl ⟨none, 0, rfl, Own.nil _ _, (by repeat (first | exact Below.refl _ _ | assumption | (refine below_drewN ?_ _) | (refine Below.drew ?_) | (refine Below.alloc ?_ (by first | omega | (simp; omega) | simp) _) | (refine Below.setCell ?_ (by first | omega | (simp; omega) | simp) _) | (refine below_trans ?_ (by assumption) (by first | omega | (simp; omega) | simp))))⟩
theorem right_same {n : Int} {ws us : List Nat} (h : Right n ws) (h' : Right n us) : ws.length = us.length := by rw [h.2.2.1, h'.2.2.1]
set_option maxHeartbeats 400000 in
theorem both_ok (hr : Row w w.heap.size A ws) (hs : Row w w.heap.size C us) (h : Right n ws) (h' : Right n us) :
    Calls Try.prog 35 #[.agg #[.int .i64 n, .slice A ws.length cap], .agg #[.int .i64 n, .slice C us.length cap']] w fun e w' => Fresh w n (bothTo ws us us.length) 0 e w' := by
  have hR := Lib.hid h
  have hR' := Lib.hid h'
  have HL := Lib.hid (right_same h h')
  have hl2 := right_len h'
  have hd : (n != n) = false := by simp
  clear h h'
  go_enter Try.func35, Try.ntmps35
  go_wp2_with (first
    | (go_at_call 53; refine (twin_ok _ (hr.later (by repeat (first | exact Below.refl _ _ | assumption | (refine below_drewN ?_ _) | (refine Below.drew ?_) | (refine Below.alloc ?_ (by first | omega | (simp; omega) | simp) _) | (refine Below.setCell ?_ (by first | omega | (simp; omega) | simp) _) | (refine below_trans ?_ (by assumption) (by first | omega | (simp; omega) | simp))))) hR.out).mono ?_; rintro e w1 ⟨A1, cap1, rfl, ho1, hb_w1⟩; obtain ⟨hc_w1, hf_w1⟩ := bcell hb_w1; have hz_w1_w_0 : w.heap.size < w1.heap.size := (by have hzz := hb_w1.size; (try simp only [World.size_alloc, World.size_setCell, World.size_drew, World.heap_drewN] at hzz); omega); have hz_w1_w_1 : w.heap.size + 1 < w1.heap.size := (by have hzz := hb_w1.size; (try simp only [World.size_alloc, World.size_setCell, World.size_drew, World.heap_drewN] at hzz); omega); have hz_w1_w_2 : w.heap.size + 2 < w1.heap.size := (by have hzz := hb_w1.size; (try simp only [World.size_alloc, World.size_setCell, World.size_drew, World.heap_drewN] at hzz); omega))
    | (go_at_call 49; refine (view_ok _ (hs.later (by repeat (first | exact Below.refl _ _ | assumption | (refine below_drewN ?_ _) | (refine Below.drew ?_) | (refine Below.alloc ?_ (by first | omega | (simp; omega) | simp) _) | (refine Below.setCell ?_ (by first | omega | (simp; omega) | simp) _) | (refine below_trans ?_ (by assumption) (by first | omega | (simp; omega) | simp))))) hR'.out).mono ?_; rintro e w2 ⟨rfl, hb_w2⟩; obtain ⟨hc_w2, hf_w2⟩ := bcell hb_w2; have hz_w2_w_0 : w.heap.size < w2.heap.size := (by have hzz := hb_w2.size; (try simp only [World.size_alloc, World.size_setCell, World.size_drew, World.heap_drewN] at hzz); omega); have hz_w2_w_1 : w.heap.size + 1 < w2.heap.size := (by have hzz := hb_w2.size; (try simp only [World.size_alloc, World.size_setCell, World.size_drew, World.heap_drewN] at hzz); omega); have hz_w2_w_2 : w.heap.size + 2 < w2.heap.size := (by have hzz := hb_w2.size; (try simp only [World.size_alloc, World.size_setCell, World.size_drew, World.heap_drewN] at hzz); omega); have hz_w2_w1_0 : w1.heap.size < w2.heap.size := (by have hzz := hb_w2.size; (try simp only [World.size_alloc, World.size_setCell, World.size_drew, World.heap_drewN] at hzz); omega)))
  simp only [World.size_alloc] at ho1
  have t2 : Two w1 (w.heap.size + 2) _ _ := (Two.new2 w _ _ _ _ _).below hb_w1 (by first | omega | (simp; omega) | simp)
  have t3 : Two w2 (w.heap.size + 2) _ _ := (t2.old (by first | omega | (simp; omega) | simp) _).below hb_w2 (by first | omega | (simp; omega) | simp)
  have t4 : Two w2 w1.heap.size _ _ := (Two.new w1 (.int .i64 n) (.slice A1 ws.length cap1) 62).below hb_w2 (by first | omega | (simp; omega) | simp)
  go_loopw [41] (fun i wr => ∃ k : Nat, i = .int .i64 k ∧ k ≤ us.length ∧ Own wr (w.heap.size + 3) A1 (bothTo ws us k) ∧ Two wr w1.heap.size (.int .i64 n) (.slice A1 ws.length cap1) ∧ Two wr (w.heap.size + 2) (.int .i64 0) (.slice none 0 0) ∧
      w1.heap.size < wr.heap.size ∧ Below w.heap.size w wr) (fun i _ => us.length - (intOf i).toNat)
  case atStart => exact ⟨0, rfl, Nat.zero_le _, (ho1.later (by repeat (first | exact Below.refl _ _ | assumption | (refine below_drewN ?_ _) | (refine Below.drew ?_) | (refine Below.alloc ?_ (by first | omega | (simp; omega) | simp) _) | (refine Below.setCell ?_ (by first | omega | (simp; omega) | simp) _) | (refine below_trans ?_ (by assumption) (by first | omega | (simp; omega) | simp))))).mono (by first | omega | (simp; omega) | simp), t4.old (by first | omega | (simp; omega) | simp) _, t3.old (by first | omega | (simp; omega) | simp) _, (by first | omega | (simp; omega) | simp), (by repeat (first | exact Below.refl _ _ | assumption | (refine below_drewN ?_ _) | (refine Below.drew ?_) | (refine Below.alloc ?_ (by first | omega | (simp; omega) | simp) _) | (refine Below.setCell ?_ (by first | omega | (simp; omega) | simp) _) | (refine below_trans ?_ (by assumption) (by first | omega | (simp; omega) | simp))))⟩
  case round =>
    obtain ⟨k, rfl, hk, hO, hT1, hT2, hsz, hb_wr⟩ := hrel
    obtain ⟨hc_wr, hf_wr⟩ := bcell hb_wr
    obtain ⟨y0, y1, yf⟩ := id hT1
    obtain ⟨z0, z1, zf⟩ := id hT2
    by_cases hlt : k < us.length
    · obtain ⟨b, off, rfl, hb, hcc⟩ := hs.at_ (by omega)
      obtain ⟨g, rfl, hBg, hg, _⟩ := ho1.at_ (by have := HL.out; omega)
      have HB := Lib.hid (length_bothTo ws us k)
      obtain ⟨g', hA', _, _, hcg⟩ := hO.at_ (by have := HB.out; have := HL.out; omega)
      injection hA' with hA'
      injection hA' with hA'
      subst hA'
      obtain ⟨hcx, hfx⟩ := hcg k (by have := HB.out; have := HL.out; omega)
      have hcy := (hc_wr _ _ hb).trans (hcc k hlt)
      rw [bothTo_at, if_neg (by omega)] at hcx
      obtain ⟨x, hx⟩ := named ws k
      obtain ⟨y, hy⟩ := named us k
      rw [hx.out] at hcx
      rw [hy.out] at hcy
      have hX := and_form x y (by rw [← hx.out]; exact hr.words.at_ _) (by rw [← hy.out]; exact hs.words.at_ _)
      have hlA : k < ws.length := by have := HL.out; omega
      clear hcg hcc hc_wr hf_wr
      go_wp2
      go_roundw
      case rel =>
        have hP := hO.set_ (i := k) (x := x &&& y) rfl (by have := HB.out; omega) (Nat.lt_of_le_of_lt Nat.and_le_left (by rw [← hx.out]; exact hr.words.at_ _))
        exact ⟨k + 1, by go_num, by omega, by unfold bothTo; rw [hx.out, hy.out]; exact hP, ⟨(World.cell?_setCell_other _ _ _ _ (by intro e; injection e; omega)).trans y0, (World.cell?_setCell_other _ _ _ _ (by intro e; injection e; omega)).trans y1, fun i => by rw [World.frozen?_setCell]; exact yf i⟩,
          ⟨(World.cell?_setCell_other _ _ _ _ (by intro e; injection e; omega)).trans z0, (World.cell?_setCell_other _ _ _ _ (by intro e; injection e; omega)).trans z1, fun i => by rw [World.frozen?_setCell]; exact zf i⟩, (by first | omega | (simp; omega) | simp), (by repeat (first | exact Below.refl _ _ | assumption | (refine below_drewN ?_ _) | (refine Below.drew ?_) | (refine Below.alloc ?_ (by first | omega | (simp; omega) | simp) _) | (refine Below.setCell ?_ (by first | omega | (simp; omega) | simp) _) | (refine below_trans ?_ (by assumption) (by first | omega | (simp; omega) | simp))))⟩
      case measure => simp [intOf]; omega
    · obtain rfl : k = us.length := by omega
      go_wp2
      exact bodyPost_ret (res_bits rfl rfl (hT2.set_ _ _).c0 (hT2.set_ _ _).c1) rfl ⟨A1, cap1, by rw [length_bothTo]; rfl, (hO.two (g := w.heap.size + 2) (by first | omega | (simp; omega) | simp)).mono (by first | omega | (simp; omega) | simp), (by repeat (first | exact Below.refl _ _ | assumption | (refine below_drewN ?_ _) | (refine Below.drew ?_) | (refine Below.alloc ?_ (by first | omega | (simp; omega) | simp) _) | (refine Below.setCell ?_ (by first | omega | (simp; omega) | simp) _) | (refine below_trans ?_ (by assumption) (by first | omega | (simp; omega) | simp))))⟩
end
end Go.Proofs.Ytbhblffomlhopaa
