/- Contracts: a copy of bits, as the document's own answers make it; one bit of them changed. -/
import Derived.Test.YtcokfdgbgeeabaaGet
import Derived.Deep.AppendLies
namespace Go.Proofs.Ytcokfdgbgeeabaa
open Go.RowKit
set_option linter.unusedVariables false
set_option linter.unusedSimpArgs false

theorem res_one {fn : Func} {p : Tmp} (h : fn.results = #[.cell p 24]) {tmps : Array Value} {w : World} {g : Nat} {v0 v1 : Value} (hp : tmps.getD p undef = .pointer (some ⟨g, 0, none⟩))
    (h0 : w.cell? ⟨g, 0, none⟩ = some v0) (h1 : w.cell? ⟨g, 1, none⟩ = some v1) : (results fn tmps).run Try.prog w = .ok (.agg #[v0, v1]) w := by
  have hp2 : tmps[p]?.getD undef = .pointer (some ⟨g, 0, none⟩) := by rw [← hp]; simp
  simp only [results, h]
  simp [go_sem, Result.andThen, h0, h1, asAddr, hp2]

/-- bits of a call's own -/
def Copied (w : World) (n : Int) (ws : List Nat) (e : Ending) (w' : World) : Prop :=
  ∃ A cap, e = .returned (.agg #[.int .i64 n, .slice A ws.length cap]) ∧ Own w' w.heap.size A ws ∧ Below w.heap.size w w'

theorem copy_nil (n : Int) (A : Option Addr) (cap : Nat) (w : World) :
    Calls Try.prog 26 #[.agg #[.int .i64 n, .slice A 0 cap]] w fun e w' => Copied w n [] e w' := by
  cases A
  all_goals
    go_enter Try.func26, Try.ntmps26
    go_wp2
    go_region
    all_goals
      go_wp2
      exact bodyPost_ret (res_one rfl rfl (g := w.heap.size + 1) (by simp [go_sem] <;> rfl) (by simp [go_sem] <;> rfl)) rfl ⟨_, 0, rfl, ⟨fun x hx => by simp at hx, fun h => by simp at h⟩, (by repeat (first | exact Below.refl _ _ | assumption | (refine below_drewN ?_ _) | (refine Below.drew ?_) | (refine Below.alloc ?_ (by first | omega | (simp; omega) | simp) _) | (refine Below.setCell ?_ (by first | omega | (simp; omega) | simp) _) | (refine below_trans ?_ (by assumption) (by first | omega | (simp; omega) | simp))))⟩

theorem copy_some (n : Int) (b off cap : Nat) (ws : List Nat) (w : World) (hr : Row w w.heap.size (some ⟨b, off, none⟩) ws) (h0 : 0 < ws.length) (hm : ws.length ≤ 17592186044416) :
    Calls Try.prog 26 #[.agg #[.int .i64 n, .slice (some ⟨b, off, none⟩) ws.length cap]] w fun e w' => Copied w n ws e w' := by
  obtain ⟨i0, hi, hz0, hz1, hz2⟩ := info_parts info_u64
  go_enter Try.func26, Try.ntmps26
  go_wp2
  go_region_law ((refine step_append_lies _ rfl (.tmp 5) (.tmp 7) 22 rfl (w.heap.size + 2) 42 i0 _ 1 8 Try.underlying22 hi hz0 hz1 hz2 rfl (by omega) (.slice (some ⟨w.heap.size + 1 + 1, 0, none⟩) 0 0) 0 [] (by simp [Act.eval, Act.put]) (own_empty w _ _ _ rfl) ⟨b, off, none⟩ ws.length cap (vals ws) (by simp [Act.eval, Act.put]) (by simp [vals]) (hr.src2 (by repeat (first | exact Below.refl _ _ | assumption | (refine below_drewN ?_ _) | (refine Below.drew ?_) | (refine Below.alloc ?_ (by first | omega | (simp; omega) | simp) _) | (refine Below.setCell ?_ (by first | omega | (simp; omega) | simp) _) | (refine below_trans ?_ (by assumption) (by first | omega | (simp; omega) | simp))))) (vals_one ws) h0 (by unfold maxLen; omega) (by omega) (by simp) _ rfl ?_; intro g cap2 w2 hown2 hg2 hat2 hlt2; simp only [Nat.zero_add, List.nil_append] at hown2; have hb_w2 : Below (w.heap.size + 2) _ w2 := (Below.refl _ _).grown hg2 (by first | omega | (simp; omega) | simp) (fun k hk => (by simp [Value.ownBlock] at hk; omega)); obtain ⟨hc_w2, hf_w2⟩ := bcell hb_w2; have hz_w2_w_0 : w.heap.size < w2.heap.size := (by have hzz := hb_w2.size; (try simp only [World.size_alloc, World.size_setCell, World.size_drew, World.heap_drewN] at hzz); omega); have hz_w2_w_1 : w.heap.size + 1 < w2.heap.size := (by have hzz := hb_w2.size; (try simp only [World.size_alloc, World.size_setCell, World.size_drew, World.heap_drewN] at hzz); omega)))
  all_goals
    go_wp2
    have k0 : w2.cell? ⟨w.heap.size + 1, 0, none⟩ = _ := (hc_w2 _ _ (by first | omega | (simp; omega) | simp)).trans (by simp [go_sem]; rfl)
    have k1 : w2.cell? ⟨w.heap.size + 1, 1, none⟩ = _ := (hc_w2 _ _ (by first | omega | (simp; omega) | simp)).trans (by simp [go_sem]; rfl)
    have ho := Own.of_owns hown2 hr.words
    exact bodyPost_ret (res_one rfl rfl (set_two _ _ k0 k1).1 (set_two _ _ k0 k1).2) rfl ⟨_, cap2, rfl, ((ho.far (.inl (by first | omega | (simp; omega) | simp)) _).far (.inl (by first | omega | (simp; omega) | simp)) _).mono (by first | omega | (simp; omega) | simp), (by repeat (first | exact Below.refl _ _ | assumption | (refine below_drewN ?_ _) | (refine Below.drew ?_) | (refine Below.alloc ?_ (by first | omega | (simp; omega) | simp) _) | (refine Below.setCell ?_ (by first | omega | (simp; omega) | simp) _) | (refine below_trans ?_ (by assumption) (by first | omega | (simp; omega) | simp))))⟩

theorem copy_any (n : Int) {A : Option Addr} (cap : Nat) {ws : List Nat} {w : World} (hr : Row w w.heap.size A ws) (hm : ws.length ≤ 17592186044416) :
    Calls Try.prog 26 #[.agg #[.int .i64 n, .slice A ws.length cap]] w fun e w' => Copied w n ws e w' := by
  by_cases h0 : 0 < ws.length
  · obtain ⟨b, off, rfl, _, _⟩ := hr.at_ h0
    exact copy_some n b off cap ws w hr h0 hm
  · obtain rfl : ws = [] := List.eq_nil_of_length_eq_zero (by omega)
    exact copy_nil n A cap w

theorem Own.put {w : World} {B g : Nat} {A : Option Addr} {ws : List Nat} (h : Own w B A ws) {i : Int} (v : Bool) (hA : A = some ⟨g, 0, none⟩) (h0 : 0 ≤ i) (hi : i < 64 * ws.length) {x : Nat} (hx : ws.getD (i / 64).toNat 0 = x) :
    Own (w.setCell ⟨g, (i / 64).toNat, none⟩ (.int .u64 (setBit x (i % 64).toNat v : Nat))) B A (putW ws i.toNat v) := by
  have := h.set_ hA (i := (i / 64).toNat) (x := setBit x (i % 64).toNat v) (by omega) (setBit_lt _ _ _ (by rw [← hx]; exact h.words.at_ _) (by omega))
  unfold putW
  rw [show i.toNat / 64 = (i / 64).toNat by omega, show i.toNat % 64 = (i % 64).toNat by omega, hx]
  exact this
theorem putW_same (ws : List Nat) (hw : Words ws) (i : Nat) (v : Bool) (hi : i < 64 * ws.length) (h : (!(tb ws i == v)) = false) : putW ws i v = ws := by
  unfold putW
  have := setBit_same (ws.getD (i / 64) 0) (i % 64) v (hw.at_ _) (Nat.mod_lt _ (by omega)) h
  rw [← this]
  apply List.ext_getElem (by simp)
  intro k h1 h2
  rw [List.getElem_set]
  split
  · rename_i e
    subst e
    rw [List.getD_eq_getElem?_getD, List.getElem?_eq_getElem h2]
    rfl
  · rfl

theorem with_any (n i : Int) (v : Bool) {A : Option Addr} (cap B : Nat) {ws : List Nat} {w : World} (hO : Own w B A ws) (hB : B ≤ w.heap.size) (h0 : 0 ≤ i) (h1 : i < 64 * ws.length) (hl : ws.length ≤ 64) :
    Calls Try.prog 47 #[.agg #[.int .i64 n, .slice A ws.length cap], .int .i64 i, .bool v] w fun e w' => e = .returned (.agg #[.int .i64 n, .slice A ws.length cap]) ∧ Own w' B A (putW ws i.toNat v) ∧ Below B w w' := by
  obtain ⟨g, rfl, hBg, hg, hc⟩ := hO.at_ (by omega)
  obtain ⟨x, hx⟩ := named ws (i / 64).toNat
  obtain ⟨hw, hf⟩ := hc (i / 64).toNat (by omega)
  rw [hx.out] at hw
  have hxl : x < W64 := by rw [← hx.out]; exact hO.words.at_ _
  have hp := wrap_pow (i % 64).toNat (by omega)
  clear hc
  go_enter Try.func47, Try.ntmps47
  go_wp2_with (go_at_call 35; refine (is_core i n g 0 ws.length cap x _ h0 h1 hl (by first | omega | (simp; omega) | simp) (by rw [Nat.zero_add]; exact (World.cell?_alloc_lt _ _ ⟨_, _, _⟩ (by first | omega | (simp; omega) | simp)).trans ((World.cell?_alloc_lt _ _ ⟨_, _, _⟩ (by first | omega | (simp; omega) | simp)).trans hw))).mono ?_; rintro e w1 ⟨rfl, hb_w1⟩; obtain ⟨hc_w1, hf_w1⟩ := bcell hb_w1; have hz_w1_w_0 : w.heap.size < w1.heap.size := (by have hzz := hb_w1.size; (try simp only [World.size_alloc, World.size_setCell, World.size_drew, World.heap_drewN] at hzz); omega); have hz_w1_w_1 : w.heap.size + 1 < w1.heap.size := (by have hzz := hb_w1.size; (try simp only [World.size_alloc, World.size_setCell, World.size_drew, World.heap_drewN] at hzz); omega); have hw1 : w1.cell? ⟨g, (i / 64).toNat, none⟩ = some (.int .u64 (x : Nat)) := ((hc_w1 _ _ (by first | omega | (simp; omega) | simp)).trans ((World.cell?_alloc_lt _ _ ⟨_, _, _⟩ (by first | omega | (simp; omega) | simp)).trans ((World.cell?_alloc_lt _ _ ⟨_, _, _⟩ (by first | omega | (simp; omega) | simp)).trans hw))); have hf1 : w1.frozen? ⟨g, (i / 64).toNat, none⟩ = false := ((hf_w1 _ _ (by first | omega | (simp; omega) | simp)).trans ((World.frozen?_alloc_old _ _ _ (by simp; omega)).trans ((World.frozen?_alloc_old _ _ _ (by simp; omega)).trans hf))))
  all_goals
    have k0 : w1.cell? ⟨w.heap.size + 1, 0, none⟩ = _ := (hc_w1 _ _ (by first | omega | (simp; omega) | simp)).trans (by simp [go_sem]; rfl)
    have k1 : w1.cell? ⟨w.heap.size + 1, 1, none⟩ = _ := (hc_w1 _ _ (by first | omega | (simp; omega) | simp)).trans (by simp [go_sem]; rfl)
    have hO1 : Own w1 B _ ws := hO.later (by repeat (first | exact Below.refl _ _ | assumption | (refine below_drewN ?_ _) | (refine Below.drew ?_) | (refine Below.alloc ?_ (by first | omega | (simp; omega) | simp) _) | (refine Below.setCell ?_ (by first | omega | (simp; omega) | simp) _) | (refine below_trans ?_ (by assumption) (by first | omega | (simp; omega) | simp))))
  · have ht : (!(x.testBit (i % 64).toNat == v)) = true := by assumption
    have hX := xor_form x (i % 64).toNat v hxl (by omega) ht
    have hP := hO1.put v rfl h0 h1 hx.out
    rw [← hX] at hP
    exact bodyPost_ret (res_one rfl rfl (set_two _ _ ((World.cell?_setCell_other _ _ _ _ (by intro e; injection e; omega)).trans k0) ((World.cell?_setCell_other _ _ _ _ (by intro e; injection e; omega)).trans k1)).1 (set_two _ _ ((World.cell?_setCell_other _ _ _ _ (by intro e; injection e; omega)).trans k0) ((World.cell?_setCell_other _ _ _ _ (by intro e; injection e; omega)).trans k1)).2) rfl ⟨rfl, (hP.off rfl (by first | omega | (simp; omega) | simp) _).off rfl (by first | omega | (simp; omega) | simp) _, (by repeat (first | exact Below.refl _ _ | assumption | (refine below_drewN ?_ _) | (refine Below.drew ?_) | (refine Below.alloc ?_ (by first | omega | (simp; omega) | simp) _) | (refine Below.setCell ?_ (by first | omega | (simp; omega) | simp) _) | (refine below_trans ?_ (by assumption) (by first | omega | (simp; omega) | simp))))⟩
  · have ht : (!(x.testBit (i % 64).toNat == v)) = false := by assumption
    rw [putW_same ws hO.words i.toNat v (by omega) (by unfold tb; rw [show i.toNat / 64 = (i / 64).toNat by omega, show i.toNat % 64 = (i % 64).toNat by omega, hx.out]; exact ht)]
    exact bodyPost_ret (res_one rfl rfl (set_two _ _ k0 k1).1 (set_two _ _ k0 k1).2) rfl ⟨rfl, (hO1.off rfl (by first | omega | (simp; omega) | simp) _).off rfl (by first | omega | (simp; omega) | simp) _, (by repeat (first | exact Below.refl _ _ | assumption | (refine below_drewN ?_ _) | (refine Below.drew ?_) | (refine Below.alloc ?_ (by first | omega | (simp; omega) | simp) _) | (refine Below.setCell ?_ (by first | omega | (simp; omega) | simp) _) | (refine below_trans ?_ (by assumption) (by first | omega | (simp; omega) | simp))))⟩
end Go.Proofs.Ytcokfdgbgeeabaa
