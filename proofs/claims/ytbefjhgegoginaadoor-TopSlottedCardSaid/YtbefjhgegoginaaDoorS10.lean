/- Contracts of package span: the slot with an address. -/
import Derived.Test.YtbefjhgegoginaaDoorS9
namespace Go.Proofs.YtbefjhgegoginaaDoor
open Go.RowKit
set_option linter.unusedVariables false
set_option linter.unusedSimpArgs false

section
variable {w : World} {d : Sd} {A M : Option Addr} (ca cm : Nat)
set_option maxHeartbeats 2000000 in
theorem sfind2_yes (a b off i n cap Bl Bt Ba k : Nat) (h : Ok1 d) (hA : Row w w.heap.size A d.aw) (hl : w.cell? ⟨Bl, 0, none⟩ = some (.slice (some ⟨b, off, none⟩) n cap)) (ht : w.cell? ⟨Bt, 0, none⟩ = some (.int .i64 (i : Nat)))
    (ha : w.cell? ⟨Ba, 0, none⟩ = some (.int .u64 (a : Nat))) (hi : i < n) (hn : n ≤ 256) (c8 : Sp8 w b (off + i * 8) d A ca M cm) (hk : (k : Int) < slotsOf d.z) (h1 : d.f * 16 + (k : Int) * d.z = (a : Int)) :
    Calls Tryd.prog 27 #[.int .i64 (k : Nat), .pointer (some ⟨Bl, 0, none⟩), .pointer (some ⟨Bt, 0, none⟩), .pointer (some ⟨Ba, 0, none⟩)] w fun e w' => e = .returned (.bool (isAt a d k)) ∧ Below w.heap.size w w' := by
  have hp := h.placed
  unfold Placed at hp
  have hs := h.sized.slots
  obtain ⟨q0, q1⟩ := h.sized.room k (by omega) hk
  have zl := World.block_lt_of_cell? w _ hl
  have zt := World.block_lt_of_cell? w _ ht
  have za := World.block_lt_of_cell? w _ ha
  have zb := c8.lt
  simp only at zl zt za
  have D := Lib.hid fun (w : World) => saddress_any (w := w) d A ca M cm (k : Nat) hp.1 (by omega) (by omega) (by omega) (by omega) ((k : Int) * d.z) rfl q0 (by omega)
  have G := Lib.hid fun (w : World) hA => salloc_any (w := w) (d := d) (A := A) (M := M) ca cm hA h.a (k : Nat) (by omega) (by rw [h.an]; exact hk)
  have hbt : Hid (((k : Int)).toNat = k) := Lib.hid (Int.toNat_natCast k)
  rw [hbt.out] at G
  obtain ⟨c0, c1, c2, c3, c4, c5, c6, c7⟩ := c8
  have hi0 : (0 : Int) ≤ (i : Int) := by omega
  have hi1 : (i : Int) < (n : Int) := by omega
  clear h hp hk hs
  unfold isAt
  obtain ⟨f, p, z, an, aw, mn, mw, s⟩ := d
  simp only at *
  generalize (k : Int) * z = m at *
  unfold spv at D G
  simp only at D G
  have d1 : (f * 16 + m == (a : Int)) = true := by simpa using h1
  rw [decide_eq_true h1, Bool.true_and]
  clear h1
  go_enter Tryd.func27, Tryd.ntmps27
  go_wp2_with fail
  go_region_held3 (fun X : World => X.cell? ⟨Bl, 0, none⟩ = some (.slice (some ⟨b, off, none⟩) n cap) ∧ X.cell? ⟨Bt, 0, none⟩ = some (.int .i64 (i : Nat)) ∧ X.cell? ⟨Ba, 0, none⟩ = some (.int .u64 (a : Nat)) ∧ X.cell? ⟨b, off + i * 8, none⟩ = some (.int .i64 f) ∧ X.cell? ⟨b, off + i * 8 + 1, none⟩ = some (.int .i64 p) ∧ X.cell? ⟨b, off + i * 8 + 2, none⟩ = some (.int .i64 z) ∧ X.cell? ⟨b, off + i * 8 + 3, none⟩ = some (.int .i64 an) ∧ X.cell? ⟨b, off + i * 8 + 4, none⟩ = some (.slice A aw.length ca) ∧ X.cell? ⟨b, off + i * 8 + 5, none⟩ = some (.int .i64 mn) ∧ X.cell? ⟨b, off + i * 8 + 6, none⟩ = some (.slice M mw.length cm) ∧ X.cell? ⟨b, off + i * 8 + 7, none⟩ = some (.bool s))
    ((refine ⟨?_, ?_, ?_, ?_, ?_, ?_, ?_, ?_, ?_, ?_, ?_⟩ <;> first | assumption | (simp [go_sem]; done)))
    ((first
      | (go_at_call 21; refine (D.out _).mono ?_; rintro e w1 ⟨rfl, hb_w1⟩; have hs1 := hb_w1.size; (try simp only [World.size_drew, World.heap_drewN, World.size_alloc] at hs1); have mw10 : w1.cell? ⟨Bl, 0, none⟩ = some (.slice (some ⟨b, off, none⟩) n cap) := (hb_w1.cell (p := ⟨Bl, 0, none⟩) (by first | omega | (simp; omega) | simp)).trans (by first | assumption | (simp [go_sem]; done)); have mw11 : w1.cell? ⟨Bt, 0, none⟩ = some (.int .i64 (i : Nat)) := (hb_w1.cell (p := ⟨Bt, 0, none⟩) (by first | omega | (simp; omega) | simp)).trans (by first | assumption | (simp [go_sem]; done)); have mw12 : w1.cell? ⟨Ba, 0, none⟩ = some (.int .u64 (a : Nat)) := (hb_w1.cell (p := ⟨Ba, 0, none⟩) (by first | omega | (simp; omega) | simp)).trans (by first | assumption | (simp [go_sem]; done)); have mw13 : w1.cell? ⟨b, off + i * 8, none⟩ = some (.int .i64 f) := (hb_w1.cell (p := ⟨b, off + i * 8, none⟩) (by first | omega | (simp; omega) | simp)).trans (by first | assumption | (simp [go_sem]; done)); have mw14 : w1.cell? ⟨b, off + i * 8 + 1, none⟩ = some (.int .i64 p) := (hb_w1.cell (p := ⟨b, off + i * 8 + 1, none⟩) (by first | omega | (simp; omega) | simp)).trans (by first | assumption | (simp [go_sem]; done)); have mw15 : w1.cell? ⟨b, off + i * 8 + 2, none⟩ = some (.int .i64 z) := (hb_w1.cell (p := ⟨b, off + i * 8 + 2, none⟩) (by first | omega | (simp; omega) | simp)).trans (by first | assumption | (simp [go_sem]; done)); have mw16 : w1.cell? ⟨b, off + i * 8 + 3, none⟩ = some (.int .i64 an) := (hb_w1.cell (p := ⟨b, off + i * 8 + 3, none⟩) (by first | omega | (simp; omega) | simp)).trans (by first | assumption | (simp [go_sem]; done)); have mw17 : w1.cell? ⟨b, off + i * 8 + 4, none⟩ = some (.slice A aw.length ca) := (hb_w1.cell (p := ⟨b, off + i * 8 + 4, none⟩) (by first | omega | (simp; omega) | simp)).trans (by first | assumption | (simp [go_sem]; done)); have mw18 : w1.cell? ⟨b, off + i * 8 + 5, none⟩ = some (.int .i64 mn) := (hb_w1.cell (p := ⟨b, off + i * 8 + 5, none⟩) (by first | omega | (simp; omega) | simp)).trans (by first | assumption | (simp [go_sem]; done)); have mw19 : w1.cell? ⟨b, off + i * 8 + 6, none⟩ = some (.slice M mw.length cm) := (hb_w1.cell (p := ⟨b, off + i * 8 + 6, none⟩) (by first | omega | (simp; omega) | simp)).trans (by first | assumption | (simp [go_sem]; done)); have mw110 : w1.cell? ⟨b, off + i * 8 + 7, none⟩ = some (.bool s) := (hb_w1.cell (p := ⟨b, off + i * 8 + 7, none⟩) (by first | omega | (simp; omega) | simp)).trans (by first | assumption | (simp [go_sem]; done)))
      | (go_at_call 28; refine (G.out _ (hA.later (by repeat (first | exact Below.refl _ _ | assumption | (refine below_drewN ?_ _) | (refine Below.drew ?_) | (refine Below.alloc ?_ (by first | omega | (simp; omega) | simp) _) | (refine Below.setCell ?_ (by first | omega | (simp; omega) | simp) _) | (refine below_trans ?_ (by assumption) (by first | omega | (simp; omega) | simp)))))).mono ?_; rintro e w2 ⟨rfl, hb_w2⟩; have mw20 : w2.cell? ⟨Bl, 0, none⟩ = some (.slice (some ⟨b, off, none⟩) n cap) := (hb_w2.cell (p := ⟨Bl, 0, none⟩) (by first | omega | (simp; omega) | simp)).trans (by first | assumption | (simp [go_sem]; done)); have mw21 : w2.cell? ⟨Bt, 0, none⟩ = some (.int .i64 (i : Nat)) := (hb_w2.cell (p := ⟨Bt, 0, none⟩) (by first | omega | (simp; omega) | simp)).trans (by first | assumption | (simp [go_sem]; done)); have mw22 : w2.cell? ⟨Ba, 0, none⟩ = some (.int .u64 (a : Nat)) := (hb_w2.cell (p := ⟨Ba, 0, none⟩) (by first | omega | (simp; omega) | simp)).trans (by first | assumption | (simp [go_sem]; done)); have mw23 : w2.cell? ⟨b, off + i * 8, none⟩ = some (.int .i64 f) := (hb_w2.cell (p := ⟨b, off + i * 8, none⟩) (by first | omega | (simp; omega) | simp)).trans (by first | assumption | (simp [go_sem]; done)); have mw24 : w2.cell? ⟨b, off + i * 8 + 1, none⟩ = some (.int .i64 p) := (hb_w2.cell (p := ⟨b, off + i * 8 + 1, none⟩) (by first | omega | (simp; omega) | simp)).trans (by first | assumption | (simp [go_sem]; done)); have mw25 : w2.cell? ⟨b, off + i * 8 + 2, none⟩ = some (.int .i64 z) := (hb_w2.cell (p := ⟨b, off + i * 8 + 2, none⟩) (by first | omega | (simp; omega) | simp)).trans (by first | assumption | (simp [go_sem]; done)); have mw26 : w2.cell? ⟨b, off + i * 8 + 3, none⟩ = some (.int .i64 an) := (hb_w2.cell (p := ⟨b, off + i * 8 + 3, none⟩) (by first | omega | (simp; omega) | simp)).trans (by first | assumption | (simp [go_sem]; done)); have mw27 : w2.cell? ⟨b, off + i * 8 + 4, none⟩ = some (.slice A aw.length ca) := (hb_w2.cell (p := ⟨b, off + i * 8 + 4, none⟩) (by first | omega | (simp; omega) | simp)).trans (by first | assumption | (simp [go_sem]; done)); have mw28 : w2.cell? ⟨b, off + i * 8 + 5, none⟩ = some (.int .i64 mn) := (hb_w2.cell (p := ⟨b, off + i * 8 + 5, none⟩) (by first | omega | (simp; omega) | simp)).trans (by first | assumption | (simp [go_sem]; done)); have mw29 : w2.cell? ⟨b, off + i * 8 + 6, none⟩ = some (.slice M mw.length cm) := (hb_w2.cell (p := ⟨b, off + i * 8 + 6, none⟩) (by first | omega | (simp; omega) | simp)).trans (by first | assumption | (simp [go_sem]; done)); have mw210 : w2.cell? ⟨b, off + i * 8 + 7, none⟩ = some (.bool s) := (hb_w2.cell (p := ⟨b, off + i * 8 + 7, none⟩) (by first | omega | (simp; omega) | simp)).trans (by first | assumption | (simp [go_sem]; done)))))
  all_goals
    go_wp2
    go_ret
    exact ⟨rfl, (by repeat (first | exact Below.refl _ _ | assumption | (refine below_drewN ?_ _) | (refine Below.drew ?_) | (refine Below.alloc ?_ (by first | omega | (simp; omega) | simp) _) | (refine Below.setCell ?_ (by first | omega | (simp; omega) | simp) _) | (refine below_trans ?_ (by assumption) (by first | omega | (simp; omega) | simp))))⟩
end
end Go.Proofs.YtbefjhgegoginaaDoor
