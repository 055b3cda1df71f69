/- Contracts of package arena: making, loading, a changed copy. -/
import Derived.Test.YtofkdpgnngbkfaaA1
namespace Go.Proofs.Ytofkdpgnngbkfaa
open Go.RowKit
set_option linter.unusedVariables false
set_option linter.unusedSimpArgs false

theorem res_arena {fn : Func} {p u : Tmp} (h : fn.results = #[.cell p 24, .tmp u]) {tmps : Array Value} {w : World} {g : Nat} {v0 : Value} (hp : tmps.getD p undef = .pointer (some ⟨g, 0, none⟩))
    (h0 : w.cell? ⟨g, 0, none⟩ = some v0) : (results fn tmps).run Try.prog w = .ok (.tuple #[.agg #[v0], tmps.getD u undef]) w := by
  rw [results_cell_tmp h, hp]
  simp [go_sem, Result.andThen, h0, asAddr]
/-- a block of one cell that may be written -/
structure One (w : World) (g : Nat) (v : Value) : Prop where
  c0 : w.cell? ⟨g, 0, none⟩ = some v
  fr : w.frozen? ⟨g, 0, none⟩ = false
theorem One.set_ {w : World} {g : Nat} {u : Value} (h : One w g u) (v : Value) : One (w.setCell ⟨g, 0, none⟩ v) g v :=
  ⟨World.cell?_setCell_same _ _ _ h.c0, by rw [World.frozen?_setCell]; exact h.fr⟩
theorem One.far {w : World} {g : Nat} {u : Value} (h : One w g u) {p : Addr} (hne : p.block ≠ g) (v : Value) : One (w.setCell p v) g u :=
  ⟨(World.cell?_setCell_other _ _ _ _ (by rintro rfl; exact hne rfl)).trans h.c0, by rw [World.frozen?_setCell]; exact h.fr⟩
theorem One.below {w w' : World} {g B : Nat} {u : Value} (h : One w g u) (hb : Below B w w') (hg : g < B) : One w' g u :=
  ⟨((bcell hb).1 _ _ hg).trans h.c0, ((bcell hb).2 _ _ hg).trans h.fr⟩
theorem One.old {w : World} {g : Nat} {u : Value} (h : One w g u) (hg : g < w.heap.size) (o : Obj) : One (w.alloc o) g u := h.below ((Below.refl w.heap.size w).alloc (Nat.le_refl _) o) hg
theorem One.new (w : World) (v : Value) (t : TypeId) : One (w.alloc (.cells #[v] t)) w.heap.size v := ⟨by simp [go_sem], by simp [go_sem]⟩
theorem One.new1 (w : World) (o : Obj) (v : Value) (t : TypeId) : One ((w.alloc o).alloc (.cells #[v] t)) (w.heap.size + 1) v := by
  have h := One.new (w.alloc o) v t
  rwa [World.size_alloc] at h
theorem One.new2 (w : World) (o o' : Obj) (v : Value) (t : TypeId) : One (((w.alloc o).alloc o').alloc (.cells #[v] t)) (w.heap.size + 2) v := by
  have h := One.new1 (w.alloc o) o' v t
  rwa [World.size_alloc] at h
theorem One.new3 (w : World) (o o' o'' : Obj) (v : Value) (t : TypeId) : One ((((w.alloc o).alloc o').alloc o'').alloc (.cells #[v] t)) (w.heap.size + 3) v := by
  have h := One.new2 (w.alloc o) o' o'' v t
  rwa [World.size_alloc] at h
theorem One.new4 (w : World) (o o' o'' o3 : Obj) (v : Value) (t : TypeId) : One (((((w.alloc o).alloc o').alloc o'').alloc o3).alloc (.cells #[v] t)) (w.heap.size + 4) v := by
  have h := One.new3 (w.alloc o) o' o'' o3 v t
  rwa [World.size_alloc] at h

/-- an arena of a call's own, and an error's number -/
def FreshA (w : World) (ws : List Nat) (why : Int) (e : Ending) (w' : World) : Prop :=
  ∃ A cap, e = .returned (.tuple #[.agg #[.slice A ws.length cap], .int .i64 why]) ∧ (Own w' w.heap.size A ws ∧ ws.length ≤ cap) ∧ Below w.heap.size w w'
theorem words_zeros (k : Nat) : Words (List.replicate k 0) := fun x hx => by
  rw [List.eq_of_mem_replicate hx]; decide

theorem amake_ok (n : Int) (w : World) (h0 : 0 ≤ n) (h1 : n ≤ 16384) : Calls Try.prog 9 #[.int .i64 n] w fun e w' => FreshA w (List.replicate n.toNat 0) 0 e w' := by
  obtain ⟨k, rfl⟩ := Int.eq_ofNat_of_zero_le h0
  have hmk := run_make_words k (by omega)
  go_enter Try.func9, Try.ntmps9
  go_wp2
  rw [Int.toNat_natCast]
  refine bodyPost_ret (res_arena rfl rfl (g := w.heap.size) (by simp [go_sem] <;> rfl)) rfl ⟨some ⟨w.heap.size + 1, 0, none⟩, k, by rw [List.length_replicate]; rfl, ⟨?_, by rw [List.length_replicate]; exact Nat.le_refl _⟩, (by repeat (first | exact Below.refl _ _ | assumption | (refine below_drewN ?_ _) | (refine Below.drew ?_) | (refine Below.alloc ?_ (by first | omega | (simp; omega) | simp) _) | (refine Below.setCell ?_ (by first | omega | (simp; omega) | simp) _) | (refine below_trans ?_ (by assumption) (by first | omega | (simp; omega) | simp))))⟩
  exact Own.of_block (block2 _ _ _) (by omega) (words_zeros k)
theorem amake_bad (n : Int) (w : World) (h : ¬ (0 ≤ n ∧ n ≤ 16384)) : Calls Try.prog 9 #[.int .i64 n] w fun e w' => FreshA w [] 1 e w' := by
  by_cases h0 : n < 0
  · have hd : decide (n < 0) = true := by simpa using h0
    go_enter Try.func9, Try.ntmps9
    go_wp2_with fail
    exact bodyPost_ret (res_arena rfl rfl (g := w.heap.size) (by simp [go_sem] <;> rfl)) rfl ⟨none, 0, rfl, ⟨Own.nil _ _, Nat.le_refl _⟩, (by repeat (first | exact Below.refl _ _ | assumption | (refine below_drewN ?_ _) | (refine Below.drew ?_) | (refine Below.alloc ?_ (by first | omega | (simp; omega) | simp) _) | (refine Below.setCell ?_ (by first | omega | (simp; omega) | simp) _) | (refine below_trans ?_ (by assumption) (by first | omega | (simp; omega) | simp))))⟩
  · have hd : decide (n < 0) = false := by simpa using h0
    have hd2 : decide (16384 < n) = true := by simp; omega
    go_enter Try.func9, Try.ntmps9
    go_wp2_with fail
    exact bodyPost_ret (res_arena rfl rfl (g := w.heap.size) (by simp [go_sem] <;> rfl)) rfl ⟨none, 0, rfl, ⟨Own.nil _ _, Nat.le_refl _⟩, (by repeat (first | exact Below.refl _ _ | assumption | (refine below_drewN ?_ _) | (refine Below.drew ?_) | (refine Below.alloc ?_ (by first | omega | (simp; omega) | simp) _) | (refine Below.setCell ?_ (by first | omega | (simp; omega) | simp) _) | (refine below_trans ?_ (by assumption) (by first | omega | (simp; omega) | simp))))⟩

section
variable {A : Option Addr} {ws : List Nat} {w : World} (cap : Nat)
theorem load_bad (i : Int) (h : ¬ ws.length ≤ 16384) : Calls Try.prog 5 #[.agg #[.slice A ws.length cap], .int .u64 i] w fun e w' => e = .returned (.tuple #[.int .u64 0, .int .i64 2]) ∧ Below w.heap.size w w' := by
  have HR := Lib.hid h
  clear h
  go_enter Try.func5, Try.ntmps5
  go_wp2_with (go_at_call 13; refine (acheck_bad _ _ HR.out).mono ?_; rintro e w1 ⟨rfl, hb_w1⟩; obtain ⟨hc_w1, hf_w1⟩ := bcell hb_w1; have hz_w1_w_0 : w.heap.size < w1.heap.size := (by have hzz := hb_w1.size; (try simp only [World.size_alloc, World.size_setCell, World.size_drew, World.heap_drewN] at hzz); omega))
  go_ret2
  exact ⟨rfl, (by repeat (first | exact Below.refl _ _ | assumption | (refine below_drewN ?_ _) | (refine Below.drew ?_) | (refine Below.alloc ?_ (by first | omega | (simp; omega) | simp) _) | (refine Below.setCell ?_ (by first | omega | (simp; omega) | simp) _) | (refine below_trans ?_ (by assumption) (by first | omega | (simp; omega) | simp))))⟩
theorem load_out (i : Int) (h : ws.length ≤ 16384) (h0 : 0 ≤ i) (h1 : i ≤ 18446744073709551615) (hi : ¬ i < ws.length) : Calls Try.prog 5 #[.agg #[.slice A ws.length cap], .int .u64 i] w fun e w' => e = .returned (.tuple #[.int .u64 0, .int .i64 1]) ∧ Below w.heap.size w w' := by
  have HI : Hid (¬ There ws.length i 1) := Lib.hid (fun hh => by have := hh.1; have := hh.2; omega)
  clear hi
  go_enter Try.func5, Try.ntmps5
  go_wp2_with (first
    | (go_at_call 13; refine (acheck_ok _ _ h).mono ?_; rintro e w1 ⟨rfl, hb_w1⟩; obtain ⟨hc_w1, hf_w1⟩ := bcell hb_w1; have hz_w1_w_0 : w.heap.size < w1.heap.size := (by have hzz := hb_w1.size; (try simp only [World.size_alloc, World.size_setCell, World.size_drew, World.heap_drewN] at hzz); omega))
    | (go_at_call 21; refine (fits_any _ _ i 1 false (by omega) h0 (by omega) (by omega) h1 (.inr ⟨rfl, HI.out⟩)).mono ?_; rintro e w2 ⟨rfl, hb_w2⟩; obtain ⟨hc_w2, hf_w2⟩ := bcell hb_w2; have hz_w2_w_0 : w.heap.size < w2.heap.size := (by have hzz := hb_w2.size; (try simp only [World.size_alloc, World.size_setCell, World.size_drew, World.heap_drewN] at hzz); omega)))
  go_ret2
  exact ⟨rfl, (by repeat (first | exact Below.refl _ _ | assumption | (refine below_drewN ?_ _) | (refine Below.drew ?_) | (refine Below.alloc ?_ (by first | omega | (simp; omega) | simp) _) | (refine Below.setCell ?_ (by first | omega | (simp; omega) | simp) _) | (refine below_trans ?_ (by assumption) (by first | omega | (simp; omega) | simp))))⟩
theorem load_in (i : Int) (hr : Row w w.heap.size A ws) (h : ws.length ≤ 16384) (h0 : 0 ≤ i) (hi : i < ws.length) : Calls Try.prog 5 #[.agg #[.slice A ws.length cap], .int .u64 i] w fun e w' => e = .returned (.tuple #[.int .u64 (ws.getD i.toNat 0 : Nat), .int .i64 0]) ∧ Below w.heap.size w w' := by
  have HI : Hid (There ws.length i 1) := Lib.hid ⟨by omega, by omega⟩
  obtain ⟨b, off, rfl, hb, hc⟩ := hr.at_ (by omega)
  obtain ⟨k, rfl⟩ := Int.eq_ofNat_of_zero_le h0
  rw [Int.toNat_natCast]
  obtain ⟨x, hx⟩ := named ws k
  have hck := hc k (by omega)
  rw [hx.out] at hck
  rw [hx.out]
  clear hc
  go_enter Try.func5, Try.ntmps5
  go_wp2_with (first
    | (go_at_call 13; refine (acheck_ok _ _ h).mono ?_; rintro e w1 ⟨rfl, hb_w1⟩; obtain ⟨hc_w1, hf_w1⟩ := bcell hb_w1; have hz_w1_w_0 : w.heap.size < w1.heap.size := (by have hzz := hb_w1.size; (try simp only [World.size_alloc, World.size_setCell, World.size_drew, World.heap_drewN] at hzz); omega); have hck1 : w1.cell? ⟨b, off + k, none⟩ = some (.int .u64 (x : Nat)) := ((hc_w1 _ _ (by first | omega | (simp; omega) | simp)).trans ((World.cell?_alloc_lt _ _ ⟨_, _, _⟩ (by first | omega | (simp; omega) | simp)).trans hck)); have hlt1 : b < w1.heap.size := (by omega))
    | (go_at_call 21; refine (fits_any _ _ k 1 true (by omega) h0 (by omega) (by omega) (by omega) (.inl ⟨rfl, HI.out⟩)).mono ?_; rintro e w2 ⟨rfl, hb_w2⟩; obtain ⟨hc_w2, hf_w2⟩ := bcell hb_w2; have hz_w2_w_0 : w.heap.size < w2.heap.size := (by have hzz := hb_w2.size; (try simp only [World.size_alloc, World.size_setCell, World.size_drew, World.heap_drewN] at hzz); omega); have hck2 : w2.cell? ⟨b, off + k, none⟩ = some (.int .u64 (x : Nat)) := ((hc_w2 _ _ (by first | omega | (simp; omega) | simp)).trans hck1)))
  go_ret2
  exact ⟨rfl, (by repeat (first | exact Below.refl _ _ | assumption | (refine below_drewN ?_ _) | (refine Below.drew ?_) | (refine Below.alloc ?_ (by first | omega | (simp; omega) | simp) _) | (refine Below.setCell ?_ (by first | omega | (simp; omega) | simp) _) | (refine below_trans ?_ (by assumption) (by first | omega | (simp; omega) | simp))))⟩

theorem changed_bad (r : Bool) (v : Value) (h : ¬ ws.length ≤ 16384) : Calls Try.prog 26 #[.agg #[.slice A ws.length cap], .bool r, v] w fun e w' => FreshA w [] 2 e w' := by
  have HR := Lib.hid h
  clear h
  go_enter Try.func26, Try.ntmps26
  go_wp2_with (go_at_call 13; refine (acheck_bad _ _ HR.out).mono ?_; rintro e w1 ⟨rfl, hb_w1⟩; obtain ⟨hc_w1, hf_w1⟩ := bcell hb_w1; have hz_w1_w_0 : w.heap.size < w1.heap.size := (by have hzz := hb_w1.size; (try simp only [World.size_alloc, World.size_setCell, World.size_drew, World.heap_drewN] at hzz); omega); have hz_w1_w_1 : w.heap.size + 1 < w1.heap.size := (by have hzz := hb_w1.size; (try simp only [World.size_alloc, World.size_setCell, World.size_drew, World.heap_drewN] at hzz); omega))
  have t1 : One w1 (w.heap.size + 1) _ := (One.new1 w _ _ _).below hb_w1 (by first | omega | (simp; omega) | simp)
  exact bodyPost_ret (res_arena rfl rfl (t1.set_ _).c0) rfl ⟨none, 0, rfl, ⟨Own.nil _ _, Nat.le_refl _⟩, (by repeat (first | exact Below.refl _ _ | assumption | (refine below_drewN ?_ _) | (refine Below.drew ?_) | (refine Below.alloc ?_ (by first | omega | (simp; omega) | simp) _) | (refine Below.setCell ?_ (by first | omega | (simp; omega) | simp) _) | (refine below_trans ?_ (by assumption) (by first | omega | (simp; omega) | simp))))⟩
theorem changed_out (v : Value) (hr : Row w w.heap.size A ws) (h : ws.length ≤ 16384) : Calls Try.prog 26 #[.agg #[.slice A ws.length cap], .bool false, v] w fun e w' => FreshA w ws 1 e w' := by
  have hmk := run_make_words ws.length (by omega)
  go_enter Try.func26, Try.ntmps26
  go_wp2_with (first
    | (go_at_call 13; refine (acheck_ok _ _ h).mono ?_; rintro e w1 ⟨rfl, hb_w1⟩; obtain ⟨hc_w1, hf_w1⟩ := bcell hb_w1; have hz_w1_w_0 : w.heap.size < w1.heap.size := (by have hzz := hb_w1.size; (try simp only [World.size_alloc, World.size_setCell, World.size_drew, World.heap_drewN] at hzz); omega); have hz_w1_w_1 : w.heap.size + 1 < w1.heap.size := (by have hzz := hb_w1.size; (try simp only [World.size_alloc, World.size_setCell, World.size_drew, World.heap_drewN] at hzz); omega))
    | (with_reducible refine wpList_copy_splice (o := ⟨some 23, _, _, _, _, _⟩) rfl (.tmp 20) (.tmp 22) 22 22 rfl 25 Try.underlying22 (by kernel_rfl) (some ⟨w1.heap.size, 0, none⟩) A ws.length ws.length ws.length cap rfl rfl w1.heap.size 0 (vals (List.replicate ws.length 0)) 25 ?c1 (vals ws) ?c2 ?c3 ?c4 (vals_one ws) w1.heap.size w1 ?c5 ?c6 ?_))
  case c1 => exact heap_alloc_new _ _
  case c2 => rw [length_vals]; exact (Nat.min_self _).symm
  case c3 =>
    intro hp
    obtain ⟨ad, e, hc⟩ := (hr.later (w' := (w1.alloc (.cells (vals (List.replicate ws.length 0)).toArray 25))) (by repeat (first | exact Below.refl _ _ | assumption | (refine below_drewN ?_ _) | (refine Below.drew ?_) | (refine Below.alloc ?_ (by first | omega | (simp; omega) | simp) _) | (refine Below.setCell ?_ (by first | omega | (simp; omega) | simp) _) | (refine below_trans ?_ (by assumption) (by first | omega | (simp; omega) | simp))))).src hp
    first | exact ⟨rfl, ad, e, hc⟩ | exact ⟨ad, e, hc⟩
  case c4 => rw [length_vals, length_vals, List.length_replicate]; omega
  case c5 => exact (Below.refl _ _).alloc (by simp) _
  case c6 => exact Nat.le_refl _
  intro w2 HG2 hb_w2
  obtain ⟨hc_w2, hf_w2⟩ := bcell hb_w2; have hz_w2_w_0 : w.heap.size < w2.heap.size := (by have hzz := hb_w2.size; (try simp only [World.size_alloc, World.size_setCell, World.size_drew, World.heap_drewN] at hzz); omega); have hz_w2_w_1 : w.heap.size + 1 < w2.heap.size := (by have hzz := hb_w2.size; (try simp only [World.size_alloc, World.size_setCell, World.size_drew, World.heap_drewN] at hzz); omega)
  go_wp2
  have t1 : One w1 (w.heap.size + 1) _ := (One.new1 w _ _ _).below hb_w1 (by first | omega | (simp; omega) | simp)
  have t2 : One w2 (w.heap.size + 1) _ := t1.below hb_w2 (by first | omega | (simp; omega) | simp)
  have hG := HG2.out
  rw [splice_all _ _ (by simp [vals])] at hG
  have ho := Own.of_block hG (Nat.le_refl _) hr.words
  exact bodyPost_ret (res_arena rfl rfl (t2.set_ _).c0) rfl ⟨_, ws.length, rfl, ⟨(ho.far (p := ⟨w.heap.size + 1, 0, none⟩) (.inl (by first | omega | (simp; omega) | simp)) _).mono (by first | omega | (simp; omega) | simp), Nat.le_refl _⟩, (by repeat (first | exact Below.refl _ _ | assumption | (refine below_drewN ?_ _) | (refine Below.drew ?_) | (refine Below.alloc ?_ (by first | omega | (simp; omega) | simp) _) | (refine Below.setCell ?_ (by first | omega | (simp; omega) | simp) _) | (refine below_trans ?_ (by assumption) (by first | omega | (simp; omega) | simp))))⟩
end
end Go.Proofs.Ytofkdpgnngbkfaa
