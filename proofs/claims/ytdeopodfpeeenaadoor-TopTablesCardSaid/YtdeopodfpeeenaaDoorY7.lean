/- Contracts of package ephem: insert, accepts. -/
import Derived.Test.YtdeopodfpeeenaaDoorY6
import Derived.Test.YtdeopodfpeeenaaDoorY0b
namespace Go.Proofs.YtdeopodfpeeenaaDoor
open Go.RowKit
set_option linter.unusedVariables false
set_option linter.unusedSimpArgs false

theorem grown_below {w w1 : World} (hb : Below w.heap.size w w1) (row : Option Nat) : w.grownBy w1 row := ⟨hb.os, hb.tape, hb.output, hb.size, fun k hk _ => hb.block k hk⟩
theorem grown_set1 {w w1 : World} {g : Nat} (h : w.grownBy w1 (some g)) (o : Nat) (u : Value) : w.grownBy (w1.setCell ⟨g, o, none⟩ u) (some g) :=
  ⟨h.os, h.tape, h.output, by have := h.size; simpa [World.setCell] using this, fun k hk hne => (Below.heap_setCell w1 ⟨g, o, none⟩ u k (by rintro rfl; exact hne rfl)).trans (h.block k hk hne)⟩
theorem grown_trans {w w1 w2 : World} {row : Option Nat} (h : w.grownBy w1 row) (h2 : w1.grownBy w2 row) : w.grownBy w2 row :=
  ⟨h2.os.trans h.os, h2.tape.trans h.tape, h2.output.trans h.output, Nat.le_trans h.size h2.size, fun k hk hne => (h2.block k (Nat.lt_of_lt_of_le hk h.size) hne).trans (h.block k hk hne)⟩
theorem cell_set3 {W : World} {b g o1 o2 o3 : Nat} {v u1 u2 u3 : Value} (h : W.cell? ⟨b, 0, none⟩ = some v) (hb : b ≠ g) : (((W.setCell ⟨g, o1, none⟩ u1).setCell ⟨g, o2, none⟩ u2).setCell ⟨g, o3, none⟩ u3).cell? ⟨b, 0, none⟩ = some v :=
  (World.cell?_setCell_other _ _ _ _ (by intro e; injection e; omega)).trans ((World.cell?_setCell_other _ _ _ _ (by intro e; injection e; omega)).trans ((World.cell?_setCell_other _ _ _ _ (by intro e; injection e; omega)).trans h))
/-- what insert leaves -/
def InsE (w : World) (B g : Nat) (l : List Es) (key val : Nat) (e : Ending) (w' : World) : Prop := e = .returned (.tuple #[]) ∧ w.grownBy w' (some g) ∧ EOwn w' B (some ⟨g, 0, none⟩) (lay l key val)
section
variable {w : World} {l : List Es} (cap : Nat)
set_option maxHeartbeats 2000000 in
theorem einsert_any {B g : Nat} (key val : Nat) (hkey : key < W64) (hval : val < W64) (hT : Tz w) (ho : EOwn w B (some ⟨g, 0, none⟩) l) (hz : Sz l.length) (hp : pl l key < l.length) :
    Calls Tryd.prog 20 #[wrk (some ⟨g, 0, none⟩) l.length cap, .int .u64 (key : Nat), .int .u64 (val : Nat)] w fun e w' => InsE w B g l key val e w' := by
  have HP := Lib.hid fun (w : World) hT hr => eplace_any (w := w) (A := some ⟨g, 0, none⟩) (l := l) cap key hT hr (.inr hz)
  have hr := ho.row
  obtain ⟨g', e, hB, hg, hc, hf⟩ := ho.at_ (by have := hz.pos; omega)
  injection e with e
  injection e with e
  subst e
  have HFZ := Lib.hid hf
  have HFA := Lib.hid fun (o : Obj) j => (((Below.refl w.heap.size w).alloc (Nat.le_refl _) o).frozen (p := ⟨g, j, none⟩) hg).trans (hf j)
  unfold InsE lay
  rw [toI_lt hp] at HP
  have HO := Lib.hid fun (W : World) (h : EOwn W B (some ⟨g, 0, none⟩) l) => h.set rfl hp ⟨1, key, val⟩ ⟨by show 1 < 256; omega, hkey, hval⟩
  generalize pl l key = a at *
  obtain ⟨c0, c1, c2⟩ := hc a hp
  have i1 : (a : Int) < (l.length : Int) := by omega
  have i2 : (0 : Int) ≤ (a : Int) := by omega
  have HOW := Lib.hid ho
  generalize (nthE l a).s = s at *
  generalize (nthE l a).k = k at *
  generalize (nthE l a).v = v at *
  unfold wrk at *
  clear hc hf hz
  go_enter Tryd.func20, Tryd.ntmps20
  go_wp2_with fail
  refine wp_region_held_drew (S := (fun X : World => X.cell? ⟨w.heap.size, 0, none⟩ = some (.slice (some ⟨g, 0, none⟩) l.length cap))) (by kernel_rfl) ?_ (fun hHeld => ?_)
  · (try dsimp only); (first | assumption | (simp [go_sem]; done) | exact (World.cell?_alloc_lt _ _ ⟨_, _, _⟩ (by first | omega | (simp; omega) | simp)).trans (by assumption) | exact cell_set3 (by assumption) (by omega))
  refine wpAnyH_take (i := 0) (v := ?_) rfl (by kernel_rfl) (by kernel_rfl) (by kernel_rfl) (fun _ _ _ h => h) (Or.inl ⟨by rfl, ?_⟩) (by assumption) ?_
  rotate_left
  · (intro w hSw; (try dsimp only at hSw); go_simp; first | done | with_reducible rfl)
  try simp only [Act.put, List.getElem_toArray, List.getElem_cons_zero, List.getElem_cons_succ, List.setIfInBounds_toArray, List.set_cons_zero, List.set_cons_succ]
  refine wpAnyH_take (i := 1) (v := ?_) rfl (by kernel_rfl) (by kernel_rfl) (by kernel_rfl) (fun _ _ _ h => h) (Or.inl ⟨by rfl, ?_⟩) (by assumption) ?_
  rotate_left
  · (intro w hSw; (try dsimp only at hSw); go_simp; first | done | with_reducible rfl)
  try simp only [Act.put, List.getElem_toArray, List.getElem_cons_zero, List.getElem_cons_succ, List.setIfInBounds_toArray, List.set_cons_zero, List.set_cons_succ]
  refine wpAnyH_take (i := 2) (v := ?_) rfl (by kernel_rfl) (by kernel_rfl) (by kernel_rfl) (fun _ _ _ h => h) (Or.inl ⟨by rfl, ?_⟩) (by assumption) ?_
  rotate_left
  · (intro w hSw; (try dsimp only at hSw); go_simp; first | done | with_reducible rfl)
  try simp only [Act.put, List.getElem_toArray, List.getElem_cons_zero, List.getElem_cons_succ, List.setIfInBounds_toArray, List.set_cons_zero, List.set_cons_succ]
  refine wpAnyH_take (i := 3) (v := ?_) rfl (by kernel_rfl) (by kernel_rfl) (by kernel_rfl) (fun _ _ _ h => h) (Or.inl ⟨by rfl, ?_⟩) (by assumption) ?_
  rotate_left
  · (intro w hSw; (try dsimp only at hSw); go_simp; first | done | with_reducible rfl)
  try simp only [Act.put, List.getElem_toArray, List.getElem_cons_zero, List.getElem_cons_succ, List.setIfInBounds_toArray, List.set_cons_zero, List.set_cons_succ]
  refine wpAnyH_take (i := 4) (v := ?_) rfl (by kernel_rfl) (by kernel_rfl) (by kernel_rfl) (fun _ _ _ h => h) (Or.inl ⟨by rfl, ?_⟩) (by assumption) ?_
  rotate_left
  · (intro w hSw; (try dsimp only at hSw); go_simp; first | done | with_reducible rfl)
  try simp only [Act.put, List.getElem_toArray, List.getElem_cons_zero, List.getElem_cons_succ, List.setIfInBounds_toArray, List.set_cons_zero, List.set_cons_succ]
  refine wpAnyH_take (i := 6) (v := ?_) rfl (by kernel_rfl) (by kernel_rfl) (by kernel_rfl) (fun _ _ _ h => h) (Or.inl ⟨by rfl, ?_⟩) (by assumption) ?_
  rotate_left
  · (intro w hSw; (try dsimp only at hSw); go_simp; first | done | with_reducible rfl)
  try simp only [Act.put, List.getElem_toArray, List.getElem_cons_zero, List.getElem_cons_succ, List.setIfInBounds_toArray, List.set_cons_zero, List.set_cons_succ]
  refine wpAnyH_take (i := 7) (v := ?_) rfl (by kernel_rfl) (by kernel_rfl) (by kernel_rfl) (fun _ _ _ h => h) (Or.inl ⟨by rfl, ?_⟩) (by assumption) ?_
  rotate_left
  · (intro w hSw; (try dsimp only at hSw); go_simp; first | done | with_reducible rfl)
  try simp only [Act.put, List.getElem_toArray, List.getElem_cons_zero, List.getElem_cons_succ, List.setIfInBounds_toArray, List.set_cons_zero, List.set_cons_succ]
  refine wpAnyH_take (i := 8) (v := ?_) rfl (by kernel_rfl) (by kernel_rfl) (by kernel_rfl) (fun _ _ _ h => h) (Or.inl ⟨by rfl, ?_⟩) (by assumption) ?_
  rotate_left
  · (intro w hSw; (try dsimp only at hSw); go_simp; first | done | with_reducible rfl)
  try simp only [Act.put, List.getElem_toArray, List.getElem_cons_zero, List.getElem_cons_succ, List.setIfInBounds_toArray, List.set_cons_zero, List.set_cons_succ]
  refine wpAnyH_ready (rs := [5]) (by kernel_rfl) (by simp) ?_
  refine AllReadyH.cons rfl (fun K hK => ?_) AllReadyH.nil
  try simp only [List.getElem_toArray, List.getElem_cons_zero, List.getElem_cons_succ]
  go_simp
  go_at_call 36
  refine (HP.out _ (hT.later (by repeat (first | exact Below.refl _ _ | assumption | (refine below_drewN ?_ _) | (refine Below.drew ?_) | (refine Below.alloc ?_ (by first | omega | (simp; omega) | simp) _) | (refine Below.setCell ?_ (by first | omega | (simp; omega) | simp) _) | (refine below_trans ?_ (by assumption) (by first | omega | (simp; omega) | simp))))) (hr.later (by repeat (first | exact Below.refl _ _ | assumption | (refine below_drewN ?_ _) | (refine Below.drew ?_) | (refine Below.alloc ?_ (by first | omega | (simp; omega) | simp) _) | (refine Below.setCell ?_ (by first | omega | (simp; omega) | simp) _) | (refine below_trans ?_ (by assumption) (by first | omega | (simp; omega) | simp)))))).mono ?_
  rintro e w1 ⟨rfl, hb_w1⟩
  have hs_w1 := hb_w1.size
  (try simp only [World.size_drew, World.heap_drewN, World.size_alloc] at hs_w1)
  have d0 : w1.cell? ⟨g, a * 3, none⟩ = some (.int .u8 (s : Nat)) := (hb_w1.cell (p := ⟨g, a * 3, none⟩) (by first | omega | (simp; omega) | simp)).trans (by first | assumption | (exact (World.cell?_alloc_lt _ _ ⟨_, _, _⟩ (by first | omega | (simp; omega) | simp)).trans (by assumption)) | (simp [go_sem]; assumption))
  have d1 : w1.cell? ⟨g, a * 3 + 1, none⟩ = some (.int .u64 (k : Nat)) := (hb_w1.cell (p := ⟨g, a * 3 + 1, none⟩) (by first | omega | (simp; omega) | simp)).trans (by first | assumption | (exact (World.cell?_alloc_lt _ _ ⟨_, _, _⟩ (by first | omega | (simp; omega) | simp)).trans (by assumption)) | (simp [go_sem]; assumption))
  have d2 : w1.cell? ⟨g, a * 3 + 2, none⟩ = some (.int .u64 (v : Nat)) := (hb_w1.cell (p := ⟨g, a * 3 + 2, none⟩) (by first | omega | (simp; omega) | simp)).trans (by first | assumption | (exact (World.cell?_alloc_lt _ _ ⟨_, _, _⟩ (by first | omega | (simp; omega) | simp)).trans (by assumption)) | (simp [go_sem]; assumption))
  have f0 : w1.frozen? ⟨g, a * 3, none⟩ = false := (hb_w1.frozen (p := ⟨g, a * 3, none⟩) (by first | omega | (simp; omega) | simp)).trans (by first | exact HFZ.out _ | exact HFA.out _ _ | (simp [go_sem]; exact HFZ.out _))
  have f1 : w1.frozen? ⟨g, a * 3 + 1, none⟩ = false := (hb_w1.frozen (p := ⟨g, a * 3 + 1, none⟩) (by first | omega | (simp; omega) | simp)).trans (by first | exact HFZ.out _ | exact HFA.out _ _ | (simp [go_sem]; exact HFZ.out _))
  have f2 : w1.frozen? ⟨g, a * 3 + 2, none⟩ = false := (hb_w1.frozen (p := ⟨g, a * 3 + 2, none⟩) (by first | omega | (simp; omega) | simp)).trans (by first | exact HFZ.out _ | exact HFA.out _ _ | (simp [go_sem]; exact HFZ.out _))
  have mw10 : w1.cell? ⟨w.heap.size, 0, none⟩ = some (.slice (some ⟨g, 0, none⟩) l.length cap) := (hb_w1.cell (p := ⟨w.heap.size, 0, none⟩) (by first | omega | (simp; omega) | simp)).trans (by first | assumption | (simp [go_sem]; done) | exact (World.cell?_alloc_lt _ _ ⟨_, _, _⟩ (by first | omega | (simp; omega) | simp)).trans (by assumption))
  try go_wp2_with fail
  refine hK.out _ _ ?_ (fun hHeld => ?_)
  · (try dsimp only); (first | assumption | (simp [go_sem]; done) | exact (World.cell?_alloc_lt _ _ ⟨_, _, _⟩ (by first | omega | (simp; omega) | simp)).trans (by assumption) | exact cell_set3 (by assumption) (by omega))
  clear hK K
  try simp only [Act.put, List.getElem_toArray, List.getElem_cons_zero, List.getElem_cons_succ, List.setIfInBounds_toArray, List.set_cons_zero, List.set_cons_succ]
  refine wpAnyH_take (i := 9) (v := ?_) rfl (by kernel_rfl) (by kernel_rfl) (by kernel_rfl) (fun _ _ _ h => h) (Or.inl ⟨by rfl, ?_⟩) (by assumption) ?_
  rotate_left
  · (intro w hSw; (try dsimp only at hSw); go_simp; first | done | with_reducible rfl)
  try simp only [Act.put, List.getElem_toArray, List.getElem_cons_zero, List.getElem_cons_succ, List.setIfInBounds_toArray, List.set_cons_zero, List.set_cons_succ]
  refine wpAnyH_ready (rs := [10]) (by kernel_rfl) (by simp) ?_
  refine AllReadyH.cons rfl (fun K hK => ?_) AllReadyH.nil
  try simp only [List.getElem_toArray, List.getElem_cons_zero, List.getElem_cons_succ]
  go_simp
  refine hK.out _ _ ?_ (fun hHeld => ?_)
  · (try dsimp only); (first | assumption | (simp [go_sem]; done) | exact (World.cell?_alloc_lt _ _ ⟨_, _, _⟩ (by first | omega | (simp; omega) | simp)).trans (by assumption) | exact cell_set3 (by assumption) (by omega))
  clear hK K
  try simp only [Act.put, List.getElem_toArray, List.getElem_cons_zero, List.getElem_cons_succ, List.setIfInBounds_toArray, List.set_cons_zero, List.set_cons_succ]
  refine wpAnyH_done (by kernel_rfl) ?_ _
  go_wp2
  go_end0
  have b1 : Below w.heap.size w w1 := (by repeat (first | exact Below.refl _ _ | assumption | (refine below_drewN ?_ _) | (refine Below.drew ?_) | (refine Below.alloc ?_ (by first | omega | (simp; omega) | simp) _) | (refine Below.setCell ?_ (by first | omega | (simp; omega) | simp) _) | (refine below_trans ?_ (by assumption) (by first | omega | (simp; omega) | simp))))
  refine ⟨rfl, ?_, HO.out _ (HOW.out.later b1)⟩
  exact grown_set1 (grown_set1 (grown_set1 (grown_below b1 _) _ _) _ _) _ _
/-- whether a new key may be put as things are -/
def AccE (l : List Es) (key : Nat) : Prop := pl l key < l.length ∧ l.length ≤ 4 * frees (lay l key 0)
theorem frees_lay {l : List Es} {key : Nat} (hp : pl l key < l.length) (val : Nat) : frees (lay l key val) + (if (nthE l (pl l key)).s = 0 then 1 else 0) = frees l := by
  have := frees_set l (pl l key) ⟨1, key, val⟩ hp
  have h1 : (if (⟨1, key, val⟩ : Es).s = 0 then 1 else 0) = (0 : Nat) := rfl
  rw [h1] at this
  show frees (l.set _ _) + _ = _
  omega
set_option maxHeartbeats 1000000 in
theorem eaccepts_any {A : Option Addr} (key : Nat) (hT : Tz w) (hr : ERow w w.heap.size A l) (hz : l.length = 0 ∨ Sz l.length) (r : Bool) (hR : r = true ↔ AccE l key) :
    Calls Tryd.prog 18 #[wrk A l.length cap, .int .u64 (key : Nat)] w fun e w' => e = .returned (.bool r) ∧ Below w.heap.size w w' := by
  have HP := Lib.hid fun (w : World) hT hr => eplace_any (w := w) (A := A) (l := l) cap key hT hr hz
  have hl64 : l.length ≤ 64 := by
    rcases hz with h | h
    · omega
    · exact h.le
  have HF := Lib.hid fun (w : World) hr => efree_any (w := w) (A := A) (l := l) cap hr (by omega)
  have HE := Lib.hid fun (w : World) (f : Int) h0 h1 => enough_any f (l.length : Int) w h0 h1
  by_cases hp : pl l key < l.length
  · rw [toI_lt hp] at HP
    have hfl := frees_lay hp 0
    obtain ⟨b, off, rfl, hbb, hc⟩ := hr.at_ (by omega)
    obtain ⟨c0, c1, c2⟩ := hc _ hp
    have hle := frees_le l
    unfold AccE at hR
    generalize frees (lay l key 0) = f' at *
    generalize frees l = f at *
    generalize pl l key = a at *
    have i1 : (a : Int) < (l.length : Int) := by omega
    have i2 : (0 : Int) ≤ (a : Int) := by omega
    have f1 : decide ((a : Int) < 0) = false := decide_eq_false (by omega)
    clear hc hz
    unfold wrk at *
    have hr9 : r = decide ((l.length : Int) ≤ (f' : Int) * 4) := by
      cases r
      · symm; exact decide_eq_false (fun h => by have := hR.2 ⟨hp, by omega⟩; cases this)
      · symm; exact decide_eq_true (by have := (hR.1 rfl).2; omega)
    by_cases hs : (nthE l a).s = 0
    · rw [hs] at c0
      rw [if_pos hs] at hfl
      have c0 : w.cell? ⟨b, off + a * 3, none⟩ = some (.int .u8 0) := c0
      obtain rfl : f = f' + 1 := by omega
      have HE2 := Lib.hid fun (w : World) => HE.out w ((f' : Nat) : Int) (by omega) (by omega)
      rw [← hr9] at HE2
      clear hs hr9 hR hfl HE
      go_enter Tryd.func18, Tryd.ntmps18
      go_wp2_with fail
      go_at_call 36
      refine (HP.out _ (hT.later (by repeat (first | exact Below.refl _ _ | assumption | (refine below_drewN ?_ _) | (refine Below.drew ?_) | (refine Below.alloc ?_ (by first | omega | (simp; omega) | simp) _) | (refine Below.setCell ?_ (by first | omega | (simp; omega) | simp) _) | (refine below_trans ?_ (by assumption) (by first | omega | (simp; omega) | simp))))) (hr.later (by repeat (first | exact Below.refl _ _ | assumption | (refine below_drewN ?_ _) | (refine Below.drew ?_) | (refine Below.alloc ?_ (by first | omega | (simp; omega) | simp) _) | (refine Below.setCell ?_ (by first | omega | (simp; omega) | simp) _) | (refine below_trans ?_ (by assumption) (by first | omega | (simp; omega) | simp)))))).mono ?_
      rintro e w1 ⟨rfl, hb_w1⟩
      obtain ⟨hc_w1, hf_w1⟩ := bcell hb_w1; have hz_w1_w_0 : w.heap.size < w1.heap.size := (by have hzz := hb_w1.size; (try simp only [World.size_alloc, World.size_setCell, World.size_drew, World.heap_drewN] at hzz); omega); have hs_w1 := hb_w1.size; (try simp only [World.size_alloc, World.size_setCell, World.size_drew, World.heap_drewN] at hs_w1)
      have b1 : Below w.heap.size w w1 := (by repeat (first | exact Below.refl _ _ | assumption | (refine below_drewN ?_ _) | (refine Below.drew ?_) | (refine Below.alloc ?_ (by first | omega | (simp; omega) | simp) _) | (refine Below.setCell ?_ (by first | omega | (simp; omega) | simp) _) | (refine below_trans ?_ (by assumption) (by first | omega | (simp; omega) | simp))))
      have k1 : w1.cell? ⟨w.heap.size, 0, none⟩ = some (.slice (some ⟨b, off, none⟩) l.length cap) := (hc_w1 _ _ (by first | omega | (simp; omega) | simp)).trans (by simp [go_sem])
      have d0 := (b1.cell (p := ⟨b, off + a * 3, none⟩) hbb).trans c0
      clear hc_w1 hf_w1
      go_wp2_with fail
      go_at_call 32
      refine (HF.out _ ((hr.later b1).later (by repeat (first | exact Below.refl _ _ | assumption | (refine below_drewN ?_ _) | (refine Below.drew ?_) | (refine Below.alloc ?_ (by first | omega | (simp; omega) | simp) _) | (refine Below.setCell ?_ (by first | omega | (simp; omega) | simp) _) | (refine below_trans ?_ (by assumption) (by first | omega | (simp; omega) | simp)))))).mono ?_
      rintro e w2 ⟨rfl, hb_w2⟩
      obtain ⟨hc_w2, hf_w2⟩ := bcell hb_w2; have hz_w2_w_0 : w.heap.size < w2.heap.size := (by have hzz := hb_w2.size; (try simp only [World.size_alloc, World.size_setCell, World.size_drew, World.heap_drewN] at hzz); omega); have hs_w2 := hb_w2.size; (try simp only [World.size_alloc, World.size_setCell, World.size_drew, World.heap_drewN] at hs_w2)
      have b2 : Below w1.heap.size w1 w2 := (by repeat (first | exact Below.refl _ _ | assumption | (refine below_drewN ?_ _) | (refine Below.drew ?_) | (refine Below.alloc ?_ (by first | omega | (simp; omega) | simp) _) | (refine Below.setCell ?_ (by first | omega | (simp; omega) | simp) _) | (refine below_trans ?_ (by assumption) (by first | omega | (simp; omega) | simp))))
      have k2 := (hc_w2 _ 0 (by first | omega | (simp; omega) | simp)).trans k1
      have e0 := (b2.cell (p := ⟨b, off + a * 3, none⟩) (by first | omega | (simp; omega) | simp)).trans d0
      clear hc_w2 hf_w2
      go_wp2_with fail
      go_at_call 31
      refine (HE2.out _).mono ?_
      rintro e w0 ⟨rfl, rfl⟩
      go_wp2
      go_ret
      exact ⟨rfl, (by repeat (first | exact Below.refl _ _ | assumption | (refine below_drewN ?_ _) | (refine Below.drew ?_) | (refine Below.alloc ?_ (by first | omega | (simp; omega) | simp) _) | (refine Below.setCell ?_ (by first | omega | (simp; omega) | simp) _) | (refine below_trans ?_ (by assumption) (by first | omega | (simp; omega) | simp))))⟩
    · rw [if_neg hs] at hfl
      have f2 : (((nthE l a).s : Int) == 0) = false := by simp; omega
      generalize (nthE l a).s = x at *
      obtain rfl : f = f' := by omega
      have HE2 := Lib.hid fun (w : World) => HE.out w ((f : Nat) : Int) (by omega) (by omega)
      rw [← hr9] at HE2
      clear hs hr9 hR hfl HE
      go_enter Tryd.func18, Tryd.ntmps18
      go_wp2_with fail
      go_at_call 36
      refine (HP.out _ (hT.later (by repeat (first | exact Below.refl _ _ | assumption | (refine below_drewN ?_ _) | (refine Below.drew ?_) | (refine Below.alloc ?_ (by first | omega | (simp; omega) | simp) _) | (refine Below.setCell ?_ (by first | omega | (simp; omega) | simp) _) | (refine below_trans ?_ (by assumption) (by first | omega | (simp; omega) | simp))))) (hr.later (by repeat (first | exact Below.refl _ _ | assumption | (refine below_drewN ?_ _) | (refine Below.drew ?_) | (refine Below.alloc ?_ (by first | omega | (simp; omega) | simp) _) | (refine Below.setCell ?_ (by first | omega | (simp; omega) | simp) _) | (refine below_trans ?_ (by assumption) (by first | omega | (simp; omega) | simp)))))).mono ?_
      rintro e w1 ⟨rfl, hb_w1⟩
      obtain ⟨hc_w1, hf_w1⟩ := bcell hb_w1; have hz_w1_w_0 : w.heap.size < w1.heap.size := (by have hzz := hb_w1.size; (try simp only [World.size_alloc, World.size_setCell, World.size_drew, World.heap_drewN] at hzz); omega); have hs_w1 := hb_w1.size; (try simp only [World.size_alloc, World.size_setCell, World.size_drew, World.heap_drewN] at hs_w1)
      have b1 : Below w.heap.size w w1 := (by repeat (first | exact Below.refl _ _ | assumption | (refine below_drewN ?_ _) | (refine Below.drew ?_) | (refine Below.alloc ?_ (by first | omega | (simp; omega) | simp) _) | (refine Below.setCell ?_ (by first | omega | (simp; omega) | simp) _) | (refine below_trans ?_ (by assumption) (by first | omega | (simp; omega) | simp))))
      have k1 : w1.cell? ⟨w.heap.size, 0, none⟩ = some (.slice (some ⟨b, off, none⟩) l.length cap) := (hc_w1 _ _ (by first | omega | (simp; omega) | simp)).trans (by simp [go_sem])
      have d0 := (b1.cell (p := ⟨b, off + a * 3, none⟩) hbb).trans c0
      clear hc_w1 hf_w1
      go_wp2_with fail
      go_at_call 32
      refine (HF.out _ ((hr.later b1).later (by repeat (first | exact Below.refl _ _ | assumption | (refine below_drewN ?_ _) | (refine Below.drew ?_) | (refine Below.alloc ?_ (by first | omega | (simp; omega) | simp) _) | (refine Below.setCell ?_ (by first | omega | (simp; omega) | simp) _) | (refine below_trans ?_ (by assumption) (by first | omega | (simp; omega) | simp)))))).mono ?_
      rintro e w2 ⟨rfl, hb_w2⟩
      obtain ⟨hc_w2, hf_w2⟩ := bcell hb_w2; have hz_w2_w_0 : w.heap.size < w2.heap.size := (by have hzz := hb_w2.size; (try simp only [World.size_alloc, World.size_setCell, World.size_drew, World.heap_drewN] at hzz); omega); have hs_w2 := hb_w2.size; (try simp only [World.size_alloc, World.size_setCell, World.size_drew, World.heap_drewN] at hs_w2)
      have b2 : Below w1.heap.size w1 w2 := (by repeat (first | exact Below.refl _ _ | assumption | (refine below_drewN ?_ _) | (refine Below.drew ?_) | (refine Below.alloc ?_ (by first | omega | (simp; omega) | simp) _) | (refine Below.setCell ?_ (by first | omega | (simp; omega) | simp) _) | (refine below_trans ?_ (by assumption) (by first | omega | (simp; omega) | simp))))
      have k2 := (hc_w2 _ 0 (by first | omega | (simp; omega) | simp)).trans k1
      have e0 := (b2.cell (p := ⟨b, off + a * 3, none⟩) (by first | omega | (simp; omega) | simp)).trans d0
      clear hc_w2 hf_w2
      go_wp2_with fail
      go_at_call 31
      refine (HE2.out _).mono ?_
      rintro e w0 ⟨rfl, rfl⟩
      go_wp2
      go_ret
      exact ⟨rfl, (by repeat (first | exact Below.refl _ _ | assumption | (refine below_drewN ?_ _) | (refine Below.drew ?_) | (refine Below.alloc ?_ (by first | omega | (simp; omega) | simp) _) | (refine Below.setCell ?_ (by first | omega | (simp; omega) | simp) _) | (refine below_trans ?_ (by assumption) (by first | omega | (simp; omega) | simp))))⟩
  · rw [toI_no hp] at HP
    obtain rfl : r = false := by
      cases r
      · rfl
      · exact absurd (hR.1 rfl).1 hp
    clear hz hR hp
    unfold wrk at *
    go_enter Tryd.func18, Tryd.ntmps18
    go_wp2_with fail
    go_at_call 36
    refine (HP.out _ (hT.later (by repeat (first | exact Below.refl _ _ | assumption | (refine below_drewN ?_ _) | (refine Below.drew ?_) | (refine Below.alloc ?_ (by first | omega | (simp; omega) | simp) _) | (refine Below.setCell ?_ (by first | omega | (simp; omega) | simp) _) | (refine below_trans ?_ (by assumption) (by first | omega | (simp; omega) | simp))))) (hr.later (by repeat (first | exact Below.refl _ _ | assumption | (refine below_drewN ?_ _) | (refine Below.drew ?_) | (refine Below.alloc ?_ (by first | omega | (simp; omega) | simp) _) | (refine Below.setCell ?_ (by first | omega | (simp; omega) | simp) _) | (refine below_trans ?_ (by assumption) (by first | omega | (simp; omega) | simp)))))).mono ?_
    rintro e w1 ⟨rfl, hb_w1⟩
    obtain ⟨hc_w1, hf_w1⟩ := bcell hb_w1; have hz_w1_w_0 : w.heap.size < w1.heap.size := (by have hzz := hb_w1.size; (try simp only [World.size_alloc, World.size_setCell, World.size_drew, World.heap_drewN] at hzz); omega); have hs_w1 := hb_w1.size; (try simp only [World.size_alloc, World.size_setCell, World.size_drew, World.heap_drewN] at hs_w1)
    go_wp2
    go_ret
    exact ⟨rfl, (by repeat (first | exact Below.refl _ _ | assumption | (refine below_drewN ?_ _) | (refine Below.drew ?_) | (refine Below.alloc ?_ (by first | omega | (simp; omega) | simp) _) | (refine Below.setCell ?_ (by first | omega | (simp; omega) | simp) _) | (refine below_trans ?_ (by assumption) (by first | omega | (simp; omega) | simp))))⟩
end
end Go.Proofs.YtdeopodfpeeenaaDoor
