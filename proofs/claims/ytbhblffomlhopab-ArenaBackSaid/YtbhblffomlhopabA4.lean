/- Contracts of package arena: what Store, Clear and Move do to a copy. -/
import Derived.Test.YtbhblffomlhopabA3
import Derived.Test.YtbhblffomlhopabASpec
import Derived.Lib.SliceRun
import Derived.BigFrame
import Derived.Deep.RegionLaw
import Derived.Lib.LazyBuf
import Derived.StillTailTactics
namespace Go.Proofs.Ytbhblffomlhopab
open Go.RowKit
set_option linter.unusedVariables false
set_option linter.unusedSimpArgs false

theorem zero_u64 (w : World) : (zeroValue 25).run Try.prog w = .ok (.int .u64 0) w := by kernel_rfl
theorem vals_zeros (n : Nat) : List.replicate n (Value.int .u64 0) = vals (List.replicate n 0) := by simp [vals]

section
variable {ws : List Nat} {W : World} {g : Nat}
theorem do_store (i v p q : Nat) (hG : W.heap[g]? = some (.cells (vals ws).toArray 25 (0, 0))) (hw : Words ws) (hm : ws.length ≤ 16384) (hi : i < ws.length) (hv : v < W64) (hp : W.cell? ⟨p, 0, none⟩ = some (.int .u64 (v : Nat))) (hq : W.cell? ⟨q, 0, none⟩ = some (.int .u64 (i : Nat))) :
    Calls Try.prog 29 #[.slice (some ⟨g, 0, none⟩) ws.length ws.length, .pointer (some ⟨p, 0, none⟩), .pointer (some ⟨q, 0, none⟩)] W fun e W' => e = .returned (.tuple #[]) ∧ Own W' g (some ⟨g, 0, none⟩) (ws.set i v) ∧ Below g W W' := by
  have ho := Own.of_block hG (Nat.le_refl _) hw
  obtain ⟨g', eg, _, hg, hcg⟩ := ho.at_ (by omega)
  injection eg with eg
  injection eg with eg
  subst eg
  obtain ⟨hc, hf⟩ := hcg i hi
  clear hcg
  have HG := Lib.hid hG
  clear hG
  go_enter Try.func29, Try.ntmps29
  go_wp2
  go_end0
  exact ⟨rfl, ho.set_ rfl hi hv, (by repeat (first | exact Below.refl _ _ | assumption | (refine below_drewN ?_ _) | (refine Below.drew ?_) | (refine Below.alloc ?_ (by first | omega | (simp; omega) | simp) _) | (refine Below.setCell ?_ (by first | omega | (simp; omega) | simp) _) | (refine below_trans ?_ (by assumption) (by first | omega | (simp; omega) | simp))))⟩
theorem do_clear (a n p q : Nat) (hG : W.heap[g]? = some (.cells (vals ws).toArray 25 (0, 0))) (hw : Words ws) (hm : ws.length ≤ 16384) (hi : a + n ≤ ws.length) (hp : W.cell? ⟨p, 0, none⟩ = some (.int .u64 (a : Nat))) (hq : W.cell? ⟨q, 0, none⟩ = some (.int .u64 (n : Nat))) :
    Calls Try.prog 33 #[.slice (some ⟨g, 0, none⟩) ws.length ws.length, .pointer (some ⟨p, 0, none⟩), .pointer (some ⟨q, 0, none⟩)] W fun e W' => e = .returned (.tuple #[]) ∧ Own W' g (some ⟨g, 0, none⟩) (overTo ws a (fun _ => 0) n) ∧ Below g W W' := by
  have ho := Own.of_block hG (Nat.le_refl _) hw
  have HG := Lib.hid hG
  clear hG
  by_cases h0 : n = 0
  · subst h0
    have hcl : ∀ (x : Option Addr) (c ty : Nat), (Builtin.clear_ #[22] ty #[.slice x 0 c]).run Try.prog W = .ok (.tuple #[]) W := fun x c ty => by
      cases x <;> simp [Builtin.clear_, run_underlying Try.underlying22]
    by_cases hcap : ws.length = a
    · obtain ⟨L, hL⟩ : ∃ L, Hid (ws.length = L) := ⟨_, rfl⟩
      rw [hL.out] at hcap
      subst hcap
      rw [hL.out] at hm hi
      rw [hL.out]
      go_enter Try.func33, Try.ntmps33
      go_wp2_with (simp only [hcl])
      go_end0
      exact ⟨rfl, ho, (by repeat (first | exact Below.refl _ _ | assumption | (refine below_drewN ?_ _) | (refine Below.drew ?_) | (refine Below.alloc ?_ (by first | omega | (simp; omega) | simp) _) | (refine Below.setCell ?_ (by first | omega | (simp; omega) | simp) _) | (refine below_trans ?_ (by assumption) (by first | omega | (simp; omega) | simp))))⟩
    · go_enter Try.func33, Try.ntmps33
      go_wp2_with (simp only [hcl])
      go_end0
      exact ⟨rfl, ho, (by repeat (first | exact Below.refl _ _ | assumption | (refine below_drewN ?_ _) | (refine Below.drew ?_) | (refine Below.alloc ?_ (by first | omega | (simp; omega) | simp) _) | (refine Below.setCell ?_ (by first | omega | (simp; omega) | simp) _) | (refine below_trans ?_ (by assumption) (by first | omega | (simp; omega) | simp))))⟩
  · obtain ⟨g', eg, _, hg, hcg⟩ := ho.at_ (by omega)
    injection eg with eg
    injection eg with eg
    subst eg
    have hcl : ∀ c ty, (Builtin.clear_ #[22] ty #[.slice (some ⟨g, a, none⟩) n c]).run Try.prog W = .ok (.tuple #[]) (W.setCells g a (List.replicate n (.int .u64 0))) := fun c ty =>
      Lib.run_clear_slice W 22 25 ty (.int .u64 0) Try.underlying22 zero_u64 rfl rfl g a n c (by omega) (fun j hj => by rw [(hcg (a + j) (by omega)).1]; rfl) (fun j hj => (hcg (a + j) (by omega)).2)
    clear hcg
    have hne : ws.length ≠ a := by omega
    have HF : Hid (W.setCells g a (List.replicate n (.int .u64 0)) = W.setCells g a (vals (List.replicate n 0))) := Lib.hid (by rw [vals_zeros])
    go_enter Try.func33, Try.ntmps33
    go_wp2_with (simp only [hcl])
    go_end0
    refine ⟨rfl, ?_, ?_⟩
    · rw [HF.out]
      have := ho.setCells (a := a) (vs := List.replicate n 0) (words_zeros n) (by rw [List.length_replicate]; exact hi)
      rwa [splice_over ws _ a (fun _ => 0) (by rw [List.length_replicate]; exact hi) (fun i hi => by rw [List.getD_eq_getElem?_getD, List.getElem?_replicate]; split <;> rfl), List.length_replicate] at this
    · exact below_setCells (Nat.le_refl _) _ _ _ (Below.refl _ _)

theorem part_src {w w' : World} {b off a n : Nat} {us : List Nat} (h : Row w w.heap.size (some ⟨b, off, none⟩) us) (hb : Below w.heap.size w w') (hi : a + n ≤ us.length) (j : Nat) (v : Value) (hv : (vals ((us.drop a).take n))[j]? = some v) :
    w'.cell? ((⟨b, off + a, none⟩ : Addr).add j) = some v := by
  have hj : j < n := by
    have := (List.getElem?_eq_some_iff.1 hv).1
    rwa [length_vals, length_part _ _ _ hi] at this
  rw [vals_at _ j (by rw [length_part _ _ _ hi]; exact hj), part_at _ _ _ _ hj] at hv
  obtain ⟨b', off', e, _, hc⟩ := (h.later hb).at_ (by omega)
  injection e with e
  injection e with e1 e2
  subst e1 e2
  injection hv with hv
  subst hv
  rw [add_form, Nat.add_assoc]
  exact hc (a + j) (by omega)
set_option maxHeartbeats 1000000 in
theorem do_move {A : Option Addr} (us : List Nat) (cap t a n p q r x : Nat) (hG : W.heap[g]? = some (.cells (vals ws).toArray 25 (0, 0))) (hw : Words ws) (hm : ws.length ≤ 16384) (hs : Row W W.heap.size A us) (hl : us.length = ws.length) (hcap : us.length ≤ cap) (ht : t + n ≤ ws.length) (ha : a + n ≤ ws.length)
    (hp : W.cell? ⟨p, 0, none⟩ = some (.int .u64 (t : Nat))) (hq : W.cell? ⟨q, 0, none⟩ = some (.int .u64 (n : Nat))) (hr : W.cell? ⟨r, 0, none⟩ = some (.slice A us.length cap)) (hx : W.cell? ⟨x, 0, none⟩ = some (.int .u64 (a : Nat))) (hn : 0 < n) :
    Calls Try.prog 32 #[.slice (some ⟨g, 0, none⟩) ws.length ws.length, .pointer (some ⟨p, 0, none⟩), .pointer (some ⟨q, 0, none⟩), .pointer (some ⟨r, 0, none⟩), .pointer (some ⟨x, 0, none⟩)] W fun e W' => e = .returned (.tuple #[]) ∧ Own W' g (some ⟨g, 0, none⟩) (overTo ws t (fun i => us.getD (a + i) 0) n) ∧ Below g W W' := by
  obtain ⟨b, off, rfl, hb, _⟩ := hs.at_ (by omega)
  have HG := Lib.hid hG
  have HL := Lib.hid hl
  have h1 : ws.length ≠ t := by omega
  have h2 : cap ≠ a := by omega
  have h3 : t + n ≤ ws.length ∧ a + n ≤ us.length ∧ a + n ≤ cap := by omega
  clear hG hl
  have i1 : ((t : Int) + n ≤ ws.length) ∧ ((a : Int) + n ≤ us.length) ∧ ((a : Int) + n ≤ cap) := by omega
  obtain ⟨i1, i2, i3⟩ := i1
  have i4 : (t : Int) ≤ t + n := by omega
  have i5 : (a : Int) ≤ a + n := by omega
  have e1 : IntKind.u64.wrap ((t : Int) + n) = t + n := IntWalk.u64_in _ (by omega)
  have e2 : IntKind.u64.wrap ((a : Int) + n) = a + n := IntWalk.u64_in _ (by omega)
  have e3 : ((t : Int) + n).toNat = t + n := by omega
  have e4 : ((a : Int) + n).toNat = a + n := by omega
  go_enter Try.func32, Try.ntmps32
  go_wp2
  go_still_tail 13, (by kernel_rfl)
  change wpList _ _ _ _ _ W.drew
  clear e1 e2 e3 e4 i1 i2 i3 i4 i5
  refine wpList_copy_splice rfl (.tmp 11) (.tmp 18) 22 22 rfl 25 Try.underlying22 (by kernel_rfl) (some ⟨g, t, none⟩) (some ⟨b, off + a, none⟩) n (ws.length - t) n (cap - a) rfl rfl g t (vals ws) 25 HG.out (vals ((us.drop a).take n)) (by rw [length_vals, length_part _ _ _ h3.2.1]; exact (Nat.min_self _).symm) (fun _ => ⟨rfl, _, rfl, part_src hs (by repeat (first | exact Below.refl _ _ | assumption | (refine below_drewN ?_ _) | (refine Below.drew ?_) | (refine Below.alloc ?_ (by first | omega | (simp; omega) | simp) _) | (refine Below.setCell ?_ (by first | omega | (simp; omega) | simp) _) | (refine below_trans ?_ (by assumption) (by first | omega | (simp; omega) | simp)))) h3.2.1⟩) (by rw [length_vals, length_vals, length_part _ _ _ h3.2.1]; omega) (vals_one _) g W (by repeat (first | exact Below.refl _ _ | assumption | (refine below_drewN ?_ _) | (refine Below.drew ?_) | (refine Below.alloc ?_ (by first | omega | (simp; omega) | simp) _) | (refine Below.setCell ?_ (by first | omega | (simp; omega) | simp) _) | (refine below_trans ?_ (by assumption) (by first | omega | (simp; omega) | simp)))) (Nat.le_refl _) ?_
  intro w2 HG2 hb_w2
  all_goals
    go_wp2
    go_end0
    have hG2 := HG2.out
    rw [vals_splice] at hG2
    have ho := Own.of_block hG2 (Nat.le_refl _) (by
      intro y hy
      unfold splice at hy
      rcases List.mem_append.1 hy with hy | hy
      · exact hw y (List.mem_of_mem_take hy)
      · rcases List.mem_append.1 hy with hy | hy
        · exact words_part hs.words _ _ y hy
        · exact hw y (List.mem_of_mem_drop hy))
    rw [splice_over ws _ t (fun i => us.getD (a + i) 0) (by rw [length_part _ _ _ h3.2.1]; omega) (fun i hi => part_at _ _ _ _ (by rwa [length_part _ _ _ h3.2.1] at hi)), length_part _ _ _ h3.2.1] at ho
    exact ⟨rfl, ho, (by repeat (first | exact Below.refl _ _ | assumption | (refine below_drewN ?_ _) | (refine Below.drew ?_) | (refine Below.alloc ?_ (by first | omega | (simp; omega) | simp) _) | (refine Below.setCell ?_ (by first | omega | (simp; omega) | simp) _) | (refine below_trans ?_ (by assumption) (by first | omega | (simp; omega) | simp))))⟩
set_option maxHeartbeats 1000000 in
theorem do_move0 {A : Option Addr} (len cap t a p q r x : Nat) (hG : W.heap[g]? = some (.cells (vals ws).toArray 25 (0, 0))) (hw : Words ws) (hm : ws.length ≤ 16384) (hl : len = ws.length) (hcap : len ≤ cap) (ht : t ≤ ws.length) (ha : a ≤ ws.length)
    (hp : W.cell? ⟨p, 0, none⟩ = some (.int .u64 (t : Nat))) (hq : W.cell? ⟨q, 0, none⟩ = some (.int .u64 0)) (hr : W.cell? ⟨r, 0, none⟩ = some (.slice A len cap)) (hx : W.cell? ⟨x, 0, none⟩ = some (.int .u64 (a : Nat))) :
    Calls Try.prog 32 #[.slice (some ⟨g, 0, none⟩) ws.length ws.length, .pointer (some ⟨p, 0, none⟩), .pointer (some ⟨q, 0, none⟩), .pointer (some ⟨r, 0, none⟩), .pointer (some ⟨x, 0, none⟩)] W fun e W' => e = .returned (.tuple #[]) ∧ Own W' g (some ⟨g, 0, none⟩) ws ∧ Below g W W' := by
  have HG := Lib.hid hG
  have i1 : ((t : Int) ≤ ws.length) ∧ ((a : Int) ≤ len) ∧ ((a : Int) ≤ cap) := by omega
  obtain ⟨i1, i2, i3⟩ := i1
  have e1 : IntKind.u64.wrap (t : Int) = t := IntWalk.u64_in _ (by omega)
  have e2 : IntKind.u64.wrap (a : Int) = a := IntWalk.u64_in _ (by omega)
  clear hG hl
  by_cases c1 : ws.length = t <;> by_cases c2 : cap = a <;> rcases A with _ | ⟨b, off, spot⟩
  all_goals
    go_enter Try.func32, Try.ntmps32
    go_wp2
    go_still_tail 13, (by kernel_rfl)
    change wpList _ _ _ _ _ W.drew
    refine wpList_copy_nothing rfl (.tmp 11) (.tmp 18) 22 22 rfl 25 Try.underlying22 (by kernel_rfl) _ _ _ _ _ _ rfl rfl (by simp) ?_
    go_wp2
    go_end0
    exact ⟨rfl, (Own.of_block HG.out (Nat.le_refl _) hw).later (by repeat (first | exact Below.refl _ _ | assumption | (refine below_drewN ?_ _) | (refine Below.drew ?_) | (refine Below.alloc ?_ (by first | omega | (simp; omega) | simp) _) | (refine Below.setCell ?_ (by first | omega | (simp; omega) | simp) _) | (refine below_trans ?_ (by assumption) (by first | omega | (simp; omega) | simp)))), (by repeat (first | exact Below.refl _ _ | assumption | (refine below_drewN ?_ _) | (refine Below.drew ?_) | (refine Below.alloc ?_ (by first | omega | (simp; omega) | simp) _) | (refine Below.setCell ?_ (by first | omega | (simp; omega) | simp) _) | (refine below_trans ?_ (by assumption) (by first | omega | (simp; omega) | simp))))⟩
end
end Go.Proofs.Ytbhblffomlhopab
