/- Contracts of package arena: a copy that is changed by what was handed in. -/
import Derived.Test.YtofkdpgnngbkfaaA2
namespace Go.Proofs.Ytofkdpgnngbkfaa
open Go.RowKit
set_option linter.unusedVariables false
set_option linter.unusedSimpArgs false

section
variable {A : Option Addr} {ws : List Nat} {w : World} (cap : Nat)
theorem changed_store (p0 p1 : Nat) (us : List Nat) (hr : Row w w.heap.size A ws) (h : ws.length ≤ 16384) (hu : us.length = ws.length)
    (D : ∀ (W : World) (g : Nat), W.heap[g]? = some (.cells (vals ws).toArray 25 (0, 0)) → Below w.heap.size w W → w.heap.size ≤ g → Calls Try.prog 27 #[.slice (some ⟨g, 0, none⟩) ws.length ws.length, .pointer (some ⟨p0, 0, none⟩), .pointer (some ⟨p1, 0, none⟩)] W fun e W' => e = .returned (.tuple #[]) ∧ Own W' g (some ⟨g, 0, none⟩) us ∧ Below g W W') :
    Calls Try.prog 26 #[.agg #[.slice A ws.length cap], .bool true, .func (.func 27) #[] #[.pointer (some ⟨p0, 0, none⟩), .pointer (some ⟨p1, 0, none⟩)]] w fun e w' => FreshA w us 0 e w' := by
  have hmk := run_make_words ws.length (by omega)
  have HD := Lib.hid D
  have HU := Lib.hid hu
  clear D hu
  go_enter Try.func26, Try.ntmps26
  go_wp2_with (first
    | (go_at_call 13; refine (acheck_ok _ _ h).mono ?_; rintro e w1 ⟨rfl, hb_w1⟩; obtain ⟨hc_w1, hf_w1⟩ := bcell hb_w1; have hz_w1_w_0 : w.heap.size < w1.heap.size := (by have hzz := hb_w1.size; (try simp only [World.size_alloc, World.size_setCell, World.size_drew, World.heap_drewN] at hzz); omega); have hz_w1_w_1 : w.heap.size + 1 < w1.heap.size := (by have hzz := hb_w1.size; (try simp only [World.size_alloc, World.size_setCell, World.size_drew, World.heap_drewN] at hzz); omega))
    | (with_reducible refine wpList_copy_splice (o := ⟨some 23, _, _, _, _, _⟩) rfl (.tmp 20) (.tmp 22) 22 22 rfl 25 Try.underlying22 (by kernel_rfl) (some ⟨w1.heap.size, 0, none⟩) A ws.length ws.length ws.length cap rfl rfl w1.heap.size 0 (vals (List.replicate ws.length 0)) 25 ?c1 (vals ws) ?c2 ?c3 ?c4 (vals_one ws) w1.heap.size w1 ?c5 ?c6 ?_))
  case c1 => exact heap_alloc_new _ _
  case c2 => rw [length_vals]; exact (Nat.min_self _).symm
  case c3 =>
    intro hp
    obtain ⟨ad, e, hc⟩ := (hr.later (w' := (w1.alloc (.cells (vals (List.replicate ws.length 0)).toArray 25))) (by repeat (first | exact Below.refl _ _ | assumption | (refine below_drewN ?_ _) | (refine Below.drew ?_) | (refine Below.alloc ?_ (by first | omega | (simp; omega) | simp) _) | (refine Below.setCell ?_ (by first | omega | (simp; omega) | simp) _) | (refine below_trans ?_ (by assumption) (by first | omega | (simp; omega) | simp))))).src hp
    first | exact ⟨rfl, ad, e, hc⟩ | exact ⟨ad, e, hc⟩
  case c4 => rw [length_vals, length_vals, List.length_replicate]; omega
  case c5 => exact (Below.refl _ _).alloc (by simp) _
  case c6 => exact Nat.le_refl _
  intro w2 HG2 hb_w2
  obtain ⟨hc_w2, hf_w2⟩ := bcell hb_w2; have hz_w2_w_0 : w.heap.size < w2.heap.size := (by have hzz := hb_w2.size; (try simp only [World.size_alloc, World.size_setCell, World.size_drew, World.heap_drewN] at hzz); omega); have hz_w2_w_1 : w.heap.size + 1 < w2.heap.size := (by have hzz := hb_w2.size; (try simp only [World.size_alloc, World.size_setCell, World.size_drew, World.heap_drewN] at hzz); omega)
  have hG := HG2.out
  rw [splice_all _ _ (by simp [vals])] at hG
  have t1 : One w1 (w.heap.size + 1) _ := (One.new1 w _ _ _).below hb_w1 (by first | omega | (simp; omega) | simp)
  have t2 : One w2 (w.heap.size + 1) _ := t1.below hb_w2 (by first | omega | (simp; omega) | simp)
  have HG := Lib.hid hG
  clear hG
  go_wp2_with fail
  go_at_call 27
  refine (HD.out w2 w1.heap.size HG.out (by repeat (first | exact Below.refl _ _ | assumption | (refine below_drewN ?_ _) | (refine Below.drew ?_) | (refine Below.alloc ?_ (by first | omega | (simp; omega) | simp) _) | (refine Below.setCell ?_ (by first | omega | (simp; omega) | simp) _) | (refine below_trans ?_ (by assumption) (by first | omega | (simp; omega) | simp)))) (by first | omega | (simp; omega) | simp)).mono ?_
  rintro e w3 ⟨rfl, ho3, hb_w3⟩
  obtain ⟨hc_w3, hf_w3⟩ := bcell hb_w3; have hz_w3_w_0 : w.heap.size < w3.heap.size := (by have hzz := hb_w3.size; (try simp only [World.size_alloc, World.size_setCell, World.size_drew, World.heap_drewN] at hzz); omega); have hz_w3_w_1 : w.heap.size + 1 < w3.heap.size := (by have hzz := hb_w3.size; (try simp only [World.size_alloc, World.size_setCell, World.size_drew, World.heap_drewN] at hzz); omega)
  have t3 : One w3 (w.heap.size + 1) _ := t2.below hb_w3 (by first | omega | (simp; omega) | simp)
  go_wp2
  exact bodyPost_ret (res_arena rfl rfl (t3.set_ _).c0) rfl ⟨_, ws.length, by rw [HU.out]; rfl, ⟨(ho3.far (p := ⟨w.heap.size + 1, 0, none⟩) (.inl (by first | omega | (simp; omega) | simp)) _).mono (by first | omega | (simp; omega) | simp), by rw [HU.out]; exact Nat.le_refl _⟩, (by repeat (first | exact Below.refl _ _ | assumption | (refine below_drewN ?_ _) | (refine Below.drew ?_) | (refine Below.alloc ?_ (by first | omega | (simp; omega) | simp) _) | (refine Below.setCell ?_ (by first | omega | (simp; omega) | simp) _) | (refine below_trans ?_ (by assumption) (by first | omega | (simp; omega) | simp))))⟩
theorem changed_clear (p0 p1 : Nat) (us : List Nat) (hr : Row w w.heap.size A ws) (h : ws.length ≤ 16384) (hu : us.length = ws.length)
    (D : ∀ (W : World) (g : Nat), W.heap[g]? = some (.cells (vals ws).toArray 25 (0, 0)) → Below w.heap.size w W → w.heap.size ≤ g → Calls Try.prog 31 #[.slice (some ⟨g, 0, none⟩) ws.length ws.length, .pointer (some ⟨p0, 0, none⟩), .pointer (some ⟨p1, 0, none⟩)] W fun e W' => e = .returned (.tuple #[]) ∧ Own W' g (some ⟨g, 0, none⟩) us ∧ Below g W W') :
    Calls Try.prog 26 #[.agg #[.slice A ws.length cap], .bool true, .func (.func 31) #[] #[.pointer (some ⟨p0, 0, none⟩), .pointer (some ⟨p1, 0, none⟩)]] w fun e w' => FreshA w us 0 e w' := by
  have hmk := run_make_words ws.length (by omega)
  have HD := Lib.hid D
  have HU := Lib.hid hu
  clear D hu
  go_enter Try.func26, Try.ntmps26
  go_wp2_with (first
    | (go_at_call 13; refine (acheck_ok _ _ h).mono ?_; rintro e w1 ⟨rfl, hb_w1⟩; obtain ⟨hc_w1, hf_w1⟩ := bcell hb_w1; have hz_w1_w_0 : w.heap.size < w1.heap.size := (by have hzz := hb_w1.size; (try simp only [World.size_alloc, World.size_setCell, World.size_drew, World.heap_drewN] at hzz); omega); have hz_w1_w_1 : w.heap.size + 1 < w1.heap.size := (by have hzz := hb_w1.size; (try simp only [World.size_alloc, World.size_setCell, World.size_drew, World.heap_drewN] at hzz); omega))
    | (with_reducible refine wpList_copy_splice (o := ⟨some 23, _, _, _, _, _⟩) rfl (.tmp 20) (.tmp 22) 22 22 rfl 25 Try.underlying22 (by kernel_rfl) (some ⟨w1.heap.size, 0, none⟩) A ws.length ws.length ws.length cap rfl rfl w1.heap.size 0 (vals (List.replicate ws.length 0)) 25 ?c1 (vals ws) ?c2 ?c3 ?c4 (vals_one ws) w1.heap.size w1 ?c5 ?c6 ?_))
  case c1 => exact heap_alloc_new _ _
  case c2 => rw [length_vals]; exact (Nat.min_self _).symm
  case c3 =>
    intro hp
    obtain ⟨ad, e, hc⟩ := (hr.later (w' := (w1.alloc (.cells (vals (List.replicate ws.length 0)).toArray 25))) (by repeat (first | exact Below.refl _ _ | assumption | (refine below_drewN ?_ _) | (refine Below.drew ?_) | (refine Below.alloc ?_ (by first | omega | (simp; omega) | simp) _) | (refine Below.setCell ?_ (by first | omega | (simp; omega) | simp) _) | (refine below_trans ?_ (by assumption) (by first | omega | (simp; omega) | simp))))).src hp
    first | exact ⟨rfl, ad, e, hc⟩ | exact ⟨ad, e, hc⟩
  case c4 => rw [length_vals, length_vals, List.length_replicate]; omega
  case c5 => exact (Below.refl _ _).alloc (by simp) _
  case c6 => exact Nat.le_refl _
  intro w2 HG2 hb_w2
  obtain ⟨hc_w2, hf_w2⟩ := bcell hb_w2; have hz_w2_w_0 : w.heap.size < w2.heap.size := (by have hzz := hb_w2.size; (try simp only [World.size_alloc, World.size_setCell, World.size_drew, World.heap_drewN] at hzz); omega); have hz_w2_w_1 : w.heap.size + 1 < w2.heap.size := (by have hzz := hb_w2.size; (try simp only [World.size_alloc, World.size_setCell, World.size_drew, World.heap_drewN] at hzz); omega)
  have hG := HG2.out
  rw [splice_all _ _ (by simp [vals])] at hG
  have t1 : One w1 (w.heap.size + 1) _ := (One.new1 w _ _ _).below hb_w1 (by first | omega | (simp; omega) | simp)
  have t2 : One w2 (w.heap.size + 1) _ := t1.below hb_w2 (by first | omega | (simp; omega) | simp)
  have HG := Lib.hid hG
  clear hG
  go_wp2_with fail
  go_at_call 31
  refine (HD.out w2 w1.heap.size HG.out (by repeat (first | exact Below.refl _ _ | assumption | (refine below_drewN ?_ _) | (refine Below.drew ?_) | (refine Below.alloc ?_ (by first | omega | (simp; omega) | simp) _) | (refine Below.setCell ?_ (by first | omega | (simp; omega) | simp) _) | (refine below_trans ?_ (by assumption) (by first | omega | (simp; omega) | simp)))) (by first | omega | (simp; omega) | simp)).mono ?_
  rintro e w3 ⟨rfl, ho3, hb_w3⟩
  obtain ⟨hc_w3, hf_w3⟩ := bcell hb_w3; have hz_w3_w_0 : w.heap.size < w3.heap.size := (by have hzz := hb_w3.size; (try simp only [World.size_alloc, World.size_setCell, World.size_drew, World.heap_drewN] at hzz); omega); have hz_w3_w_1 : w.heap.size + 1 < w3.heap.size := (by have hzz := hb_w3.size; (try simp only [World.size_alloc, World.size_setCell, World.size_drew, World.heap_drewN] at hzz); omega)
  have t3 : One w3 (w.heap.size + 1) _ := t2.below hb_w3 (by first | omega | (simp; omega) | simp)
  go_wp2
  exact bodyPost_ret (res_arena rfl rfl (t3.set_ _).c0) rfl ⟨_, ws.length, by rw [HU.out]; rfl, ⟨(ho3.far (p := ⟨w.heap.size + 1, 0, none⟩) (.inl (by first | omega | (simp; omega) | simp)) _).mono (by first | omega | (simp; omega) | simp), by rw [HU.out]; exact Nat.le_refl _⟩, (by repeat (first | exact Below.refl _ _ | assumption | (refine below_drewN ?_ _) | (refine Below.drew ?_) | (refine Below.alloc ?_ (by first | omega | (simp; omega) | simp) _) | (refine Below.setCell ?_ (by first | omega | (simp; omega) | simp) _) | (refine below_trans ?_ (by assumption) (by first | omega | (simp; omega) | simp))))⟩
end
end Go.Proofs.Ytofkdpgnngbkfaa
