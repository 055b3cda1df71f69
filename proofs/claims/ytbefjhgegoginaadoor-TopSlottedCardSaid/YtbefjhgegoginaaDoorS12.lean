/- Contracts of package span: Find. -/
import Derived.Test.YtbefjhgegoginaaDoorS11
namespace Go.Proofs.YtbefjhgegoginaaDoor
open Go.RowKit
set_option linter.unusedVariables false
set_option linter.unusedSimpArgs false

theorem sfind2_any {w : World} {d : Sd} {A M : Option Addr} (ca cm : Nat) (a b off i n cap Bl Bt Ba k : Nat) (h : Ok1 d) (hA : Row w w.heap.size A d.aw) (hl : w.cell? ⟨Bl, 0, none⟩ = some (.slice (some ⟨b, off, none⟩) n cap)) (ht : w.cell? ⟨Bt, 0, none⟩ = some (.int .i64 (i : Nat)))
    (ha : w.cell? ⟨Ba, 0, none⟩ = some (.int .u64 (a : Nat))) (hi : i < n) (hn : n ≤ 256) (c8 : Sp8 w b (off + i * 8) d A ca M cm) (hk : (k : Int) < slotsOf d.z) :
    Calls Tryd.prog 27 #[.int .i64 (k : Nat), .pointer (some ⟨Bl, 0, none⟩), .pointer (some ⟨Bt, 0, none⟩), .pointer (some ⟨Ba, 0, none⟩)] w fun e w' => e = .returned (.bool (isAt a d k)) ∧ Below w.heap.size w w' := by
  by_cases h1 : d.f * 16 + (k : Int) * d.z = (a : Int)
  · exact sfind2_yes ca cm a b off i n cap Bl Bt Ba k h hA hl ht ha hi hn c8 hk h1
  · exact sfind2_no ca cm a b off i n cap Bl Bt Ba k h hA hl ht ha hi hn c8 hk h1
theorem eg_find1 : ∀ args w, (callFunc 23 args).run Tryd.prog w = .ok (.enter 23 args) w := enters_of Tryd.func23 (by kernel_rfl) rfl
theorem eg_find2 : ∀ args w, (callFunc 27 args).run Tryd.prog w = .ok (.enter 27 args) w := enters_of Tryd.func27 (by kernel_rfl) rfl
theorem says_find2 {w : World} {d : Sd} {A M : Option Addr} (ca cm : Nat) (a b off i n cap Bl Bt Ba : Nat) (h : Ok1 d) (hA : Row w w.heap.size A d.aw) (hl : w.cell? ⟨Bl, 0, none⟩ = some (.slice (some ⟨b, off, none⟩) n cap)) (ht : w.cell? ⟨Bt, 0, none⟩ = some (.int .i64 (i : Nat)))
    (ha : w.cell? ⟨Ba, 0, none⟩ = some (.int .u64 (a : Nat))) (hi : i < n) (hn : n ≤ 256) (c8 : Sp8 w b (off + i * 8) d A ca M cm) :
    SaysN 27 #[.pointer (some ⟨Bl, 0, none⟩), .pointer (some ⟨Bt, 0, none⟩), .pointer (some ⟨Ba, 0, none⟩)] (slotsOf d.z).toNat (isAt a d) w :=
  fun W k hb hk => sfind2_any ca cm a b off i n cap Bl Bt Ba k h (hA.later hb) ((hb.cell (p := ⟨Bl, 0, none⟩) (World.block_lt_of_cell? w _ hl)).trans hl) ((hb.cell (p := ⟨Bt, 0, none⟩) (World.block_lt_of_cell? w _ ht)).trans ht) ((hb.cell (p := ⟨Ba, 0, none⟩) (World.block_lt_of_cell? w _ ha)).trans ha) hi hn (c8.later hb) (by have := h.sized.slots; omega)
/-- where an address leads -/
def FindE (l : List Sd) (a : Nat) (x k y : Int) : Prop := (¬ OkL l ∧ x = 0 ∧ k = 0 ∧ y = 2) ∨ (OkL l ∧ IdxE l (inP a) (-1) ∧ x = 0 ∧ k = 0 ∧ y = 3) ∨
  (∃ i : Nat, OkL l ∧ IdxE l (inP a) i ∧ ((IdxN (slotsOf (nth l i).z).toNat (isAt a (nth l i)) (-1) ∧ x = 0 ∧ k = 0 ∧ y = 10) ∨ (∃ j : Nat, IdxN (slotsOf (nth l i).z).toNat (isAt a (nth l i)) j ∧ x = i ∧ k = j ∧ y = 0)))
section
variable {w : World} {A : Option Addr} {l : List Sd} (cap : Nat)
theorem says_find1 (a B : Nat) (hok : OkL l) (hB : w.cell? ⟨B, 0, none⟩ = some (.int .u64 (a : Nat))) : Says 23 #[.pointer (some ⟨B, 0, none⟩)] l (inP a) w :=
  fun W i A M ca cm hb hi hA hM => sfind1_any ca cm a B (hok.2.1 i hi) ((hb.cell (p := ⟨B, 0, none⟩) (World.block_lt_of_cell? w _ hB)).trans hB)
set_option maxHeartbeats 2000000 in
theorem sfind_any (hr : SRow w w.heap.size A l) (hl : l.length ≤ 17592186044416) (a : Nat) (x k y : Int) (hF : FindE l a x k y) :
    Calls Tryd.prog 11 #[.slice A l.length cap, .int .u64 (a : Nat)] w fun e w' => e = .returned (.tuple #[.int .i64 x, .int .i64 k, .int .i64 y]) ∧ Below w.heap.size w w' := by
  rcases hF with ⟨h, rfl, rfl, rfl⟩ | ⟨h, hI, rfl, rfl, rfl⟩ | ⟨i, h, hI, hJ⟩
  · have C := Lib.hid fun (w : World) hr => scheck_any (w := w) (A := A) (l := l) cap hr hl 2 (.inr ⟨h, rfl⟩)
    clear h
    go_enter Tryd.func11, Tryd.ntmps11
    go_wp2_with fail
    go_at_call 20
    refine (C.out _ (hr.later (by repeat (first | exact Below.refl _ _ | assumption | (refine below_drewN ?_ _) | (refine Below.drew ?_) | (refine Below.alloc ?_ (by first | omega | (simp; omega) | simp) _) | (refine Below.setCell ?_ (by first | omega | (simp; omega) | simp) _) | (refine below_trans ?_ (by assumption) (by first | omega | (simp; omega) | simp)))))).mono ?_
    rintro e w1 ⟨rfl, hb_w1⟩
    obtain ⟨hc_w1, hf_w1⟩ := bcell hb_w1; have hz_w1_w_0 : w.heap.size < w1.heap.size := (by have hzz := hb_w1.size; (try simp only [World.size_alloc, World.size_setCell, World.size_drew, World.heap_drewN] at hzz); omega); have hz_w1_w_1 : w.heap.size + 1 < w1.heap.size := (by have hzz := hb_w1.size; (try simp only [World.size_alloc, World.size_setCell, World.size_drew, World.heap_drewN] at hzz); omega); have hs_w1 := hb_w1.size; (try simp only [World.size_alloc, World.size_setCell, World.size_drew, World.heap_drewN] at hs_w1)
    go_wp2
    go_ret3
    exact ⟨rfl, (by repeat (first | exact Below.refl _ _ | assumption | (refine below_drewN ?_ _) | (refine Below.drew ?_) | (refine Below.alloc ?_ (by first | omega | (simp; omega) | simp) _) | (refine Below.setCell ?_ (by first | omega | (simp; omega) | simp) _) | (refine below_trans ?_ (by assumption) (by first | omega | (simp; omega) | simp))))⟩
  · have C := Lib.hid fun (w : World) hr => scheck_any (w := w) (A := A) (l := l) cap hr hl 0 (.inl ⟨h, rfl⟩)
    have HI := Lib.hid hI
    have HO := Lib.hid h
    clear h hI
    go_enter Tryd.func11, Tryd.ntmps11
    go_wp2_with fail
    go_at_call 20
    refine (C.out _ (hr.later (by repeat (first | exact Below.refl _ _ | assumption | (refine below_drewN ?_ _) | (refine Below.drew ?_) | (refine Below.alloc ?_ (by first | omega | (simp; omega) | simp) _) | (refine Below.setCell ?_ (by first | omega | (simp; omega) | simp) _) | (refine below_trans ?_ (by assumption) (by first | omega | (simp; omega) | simp)))))).mono ?_
    rintro e w1 ⟨rfl, hb_w1⟩
    obtain ⟨hc_w1, hf_w1⟩ := bcell hb_w1; have hz_w1_w_0 : w.heap.size < w1.heap.size := (by have hzz := hb_w1.size; (try simp only [World.size_alloc, World.size_setCell, World.size_drew, World.heap_drewN] at hzz); omega); have hz_w1_w_1 : w.heap.size + 1 < w1.heap.size := (by have hzz := hb_w1.size; (try simp only [World.size_alloc, World.size_setCell, World.size_drew, World.heap_drewN] at hzz); omega); have hs_w1 := hb_w1.size; (try simp only [World.size_alloc, World.size_setCell, World.size_drew, World.heap_drewN] at hs_w1)
    have ka : w1.cell? ⟨w.heap.size + 1, 0, none⟩ = some (.int .u64 (a : Nat)) := (hc_w1 _ _ (by first | omega | (simp; omega) | simp)).trans (by simp [go_sem])
    go_wp2_with fail
    go_at_call 22
    refine (sindex_any cap 23 _ (inP a) eg_find1 (hr.later (by repeat (first | exact Below.refl _ _ | assumption | (refine below_drewN ?_ _) | (refine Below.drew ?_) | (refine Below.alloc ?_ (by first | omega | (simp; omega) | simp) _) | (refine Below.setCell ?_ (by first | omega | (simp; omega) | simp) _) | (refine below_trans ?_ (by assumption) (by first | omega | (simp; omega) | simp))))) hl (says_find1 a _ HO.out ka) (-1) HI.out).mono ?_
    rintro e w2 ⟨rfl, hb_w2⟩
    obtain ⟨hc_w2, hf_w2⟩ := bcell hb_w2; have hz_w2_w_0 : w.heap.size < w2.heap.size := (by have hzz := hb_w2.size; (try simp only [World.size_alloc, World.size_setCell, World.size_drew, World.heap_drewN] at hzz); omega); have hz_w2_w_1 : w.heap.size + 1 < w2.heap.size := (by have hzz := hb_w2.size; (try simp only [World.size_alloc, World.size_setCell, World.size_drew, World.heap_drewN] at hzz); omega); have hs_w2 := hb_w2.size; (try simp only [World.size_alloc, World.size_setCell, World.size_drew, World.heap_drewN] at hs_w2)
    go_wp2
    go_ret3
    exact ⟨rfl, (by repeat (first | exact Below.refl _ _ | assumption | (refine below_drewN ?_ _) | (refine Below.drew ?_) | (refine Below.alloc ?_ (by first | omega | (simp; omega) | simp) _) | (refine Below.setCell ?_ (by first | omega | (simp; omega) | simp) _) | (refine below_trans ?_ (by assumption) (by first | omega | (simp; omega) | simp))))⟩
  · have C := Lib.hid fun (w : World) hr => scheck_any (w := w) (A := A) (l := l) cap hr hl 0 (.inl ⟨h, rfl⟩)
    have HI := Lib.hid hI
    have HO := Lib.hid h
    have HJ := Lib.hid hJ
    have hil : i < l.length := by
      rcases hI with ⟨h1, _⟩ | ⟨j, h1, h2, _⟩
      · omega
      · omega
    clear h hI hJ
    go_enter Tryd.func11, Tryd.ntmps11
    go_wp2_with fail
    go_at_call 20
    refine (C.out _ (hr.later (by repeat (first | exact Below.refl _ _ | assumption | (refine below_drewN ?_ _) | (refine Below.drew ?_) | (refine Below.alloc ?_ (by first | omega | (simp; omega) | simp) _) | (refine Below.setCell ?_ (by first | omega | (simp; omega) | simp) _) | (refine below_trans ?_ (by assumption) (by first | omega | (simp; omega) | simp)))))).mono ?_
    rintro e w1 ⟨rfl, hb_w1⟩
    obtain ⟨hc_w1, hf_w1⟩ := bcell hb_w1; have hz_w1_w_0 : w.heap.size < w1.heap.size := (by have hzz := hb_w1.size; (try simp only [World.size_alloc, World.size_setCell, World.size_drew, World.heap_drewN] at hzz); omega); have hz_w1_w_1 : w.heap.size + 1 < w1.heap.size := (by have hzz := hb_w1.size; (try simp only [World.size_alloc, World.size_setCell, World.size_drew, World.heap_drewN] at hzz); omega); have hs_w1 := hb_w1.size; (try simp only [World.size_alloc, World.size_setCell, World.size_drew, World.heap_drewN] at hs_w1)
    have ka : w1.cell? ⟨w.heap.size + 1, 0, none⟩ = some (.int .u64 (a : Nat)) := (hc_w1 _ _ (by first | omega | (simp; omega) | simp)).trans (by simp [go_sem])
    go_wp2_with fail
    go_at_call 22
    refine (sindex_any cap 23 _ (inP a) eg_find1 (hr.later (by repeat (first | exact Below.refl _ _ | assumption | (refine below_drewN ?_ _) | (refine Below.drew ?_) | (refine Below.alloc ?_ (by first | omega | (simp; omega) | simp) _) | (refine Below.setCell ?_ (by first | omega | (simp; omega) | simp) _) | (refine below_trans ?_ (by assumption) (by first | omega | (simp; omega) | simp))))) hl (says_find1 a _ HO.out ka) ((i : Nat)) HI.out).mono ?_
    rintro e w2 ⟨rfl, hb_w2⟩
    obtain ⟨hc_w2, hf_w2⟩ := bcell hb_w2; have hz_w2_w_0 : w.heap.size < w2.heap.size := (by have hzz := hb_w2.size; (try simp only [World.size_alloc, World.size_setCell, World.size_drew, World.heap_drewN] at hzz); omega); have hz_w2_w_1 : w.heap.size + 1 < w2.heap.size := (by have hzz := hb_w2.size; (try simp only [World.size_alloc, World.size_setCell, World.size_drew, World.heap_drewN] at hzz); omega); have hs_w2 := hb_w2.size; (try simp only [World.size_alloc, World.size_setCell, World.size_drew, World.heap_drewN] at hs_w2)
    have hr2 : SRow w2 w2.heap.size A l := hr.later (by repeat (first | exact Below.refl _ _ | assumption | (refine below_drewN ?_ _) | (refine Below.drew ?_) | (refine Below.alloc ?_ (by first | omega | (simp; omega) | simp) _) | (refine Below.setCell ?_ (by first | omega | (simp; omega) | simp) _) | (refine below_trans ?_ (by assumption) (by first | omega | (simp; omega) | simp))))
    obtain ⟨b, off, rfl, hbb, hc⟩ := hr2.at_ (by omega)
    obtain ⟨Aa, ca, Am, cm, c8, ra, rm⟩ := hc i hil
    obtain ⟨d, hd⟩ : ∃ d, Hid (nth l i = d) := ⟨_, rfl⟩
    rw [hd.out] at c8 ra rm HJ
    obtain ⟨c0, c1, c2, c3, c4, c5, c6, c7⟩ := id c8
    have hi0 : (0 : Int) ≤ (i : Int) := by omega
    have hi1 : (i : Int) < (l.length : Int) := by omega
    have hi2 : decide ((i : Int) < 0) = false := decide_eq_false (by omega)
    clear hc
    have H1 : Hid (Ok1 d) := Lib.hid (by have := HO.out.2.1 i hil; rwa [hd.out] at this)
    have hn6 := HO.out.1
    have b3 : Below w2.heap.size w2 (w2.alloc (.cells #[.int .i64 (i : Nat)] 3)) := (Below.refl _ _).alloc (Nat.le_refl _) _
    have kl : (w2.alloc (.cells #[.int .i64 (i : Nat)] 3)).cell? ⟨w.heap.size, 0, none⟩ = some (.slice (some ⟨b, off, none⟩) l.length cap) := (World.cell?_alloc_lt _ _ ⟨_, _, _⟩ (by first | omega | (simp; omega) | simp)).trans ((hc_w2 _ _ (by first | omega | (simp; omega) | simp)).trans ((hc_w1 _ _ (by first | omega | (simp; omega) | simp)).trans (by simp [go_sem])))
    have kt : (w2.alloc (.cells #[.int .i64 (i : Nat)] 3)).cell? ⟨w2.heap.size, 0, none⟩ = some (.int .i64 (i : Nat)) := by simp [go_sem]
    have kb : (w2.alloc (.cells #[.int .i64 (i : Nat)] 3)).cell? ⟨w.heap.size + 1, 0, none⟩ = some (.int .u64 (a : Nat)) := (World.cell?_alloc_lt _ _ ⟨_, _, _⟩ (by first | omega | (simp; omega) | simp)).trans ((hc_w2 _ _ (by first | omega | (simp; omega) | simp)).trans ka)
    have Q := Lib.hid (says_find2 ca cm a b off i l.length cap w.heap.size w2.heap.size (w.heap.size + 1) H1.out (ra.later b3) kl kt kb hil hn6 (c8.later b3))
    have hz : slotsOf d.z = (((slotsOf d.z).toNat : Nat) : Int) := by have := H1.out.sized.slots; omega
    have HZ := Lib.hid hz
    clear hz hn6 kl kt
    rcases HJ.out with ⟨hJ, rfl, rfl, rfl⟩ | ⟨j, hJ, rfl, rfl, rfl⟩
    · have HQ := Lib.hid hJ
      clear hJ
      go_wp2_with fail
      go_at_call 26
      refine (swhere_any ca cm H1.out.sized 27 _ _ HZ.out (isAt a d) eg_find2 Q.out (-1) HQ.out).mono ?_
      rintro e w4 ⟨rfl, hb_w4⟩
      obtain ⟨hc_w4, hf_w4⟩ := bcell hb_w4; have hz_w4_w_0 : w.heap.size < w4.heap.size := (by have hzz := hb_w4.size; (try simp only [World.size_alloc, World.size_setCell, World.size_drew, World.heap_drewN] at hzz); omega); have hz_w4_w_1 : w.heap.size + 1 < w4.heap.size := (by have hzz := hb_w4.size; (try simp only [World.size_alloc, World.size_setCell, World.size_drew, World.heap_drewN] at hzz); omega); have hz_w4_w2_0 : w2.heap.size < w4.heap.size := (by have hzz := hb_w4.size; (try simp only [World.size_alloc, World.size_setCell, World.size_drew, World.heap_drewN] at hzz); omega); have hs_w4 := hb_w4.size; (try simp only [World.size_alloc, World.size_setCell, World.size_drew, World.heap_drewN] at hs_w4)
      go_wp2
      go_ret3
      exact ⟨rfl, (by repeat (first | exact Below.refl _ _ | assumption | (refine below_drewN ?_ _) | (refine Below.drew ?_) | (refine Below.alloc ?_ (by first | omega | (simp; omega) | simp) _) | (refine Below.setCell ?_ (by first | omega | (simp; omega) | simp) _) | (refine below_trans ?_ (by assumption) (by first | omega | (simp; omega) | simp))))⟩
    · have HQ := Lib.hid hJ
      have hj0 : decide ((j : Int) < 0) = false := decide_eq_false (by omega)
      clear hJ
      go_wp2_with fail
      go_at_call 26
      refine (swhere_any ca cm H1.out.sized 27 _ _ HZ.out (isAt a d) eg_find2 Q.out (j : Nat) HQ.out).mono ?_
      rintro e w4 ⟨rfl, hb_w4⟩
      obtain ⟨hc_w4, hf_w4⟩ := bcell hb_w4; have hz_w4_w_0 : w.heap.size < w4.heap.size := (by have hzz := hb_w4.size; (try simp only [World.size_alloc, World.size_setCell, World.size_drew, World.heap_drewN] at hzz); omega); have hz_w4_w_1 : w.heap.size + 1 < w4.heap.size := (by have hzz := hb_w4.size; (try simp only [World.size_alloc, World.size_setCell, World.size_drew, World.heap_drewN] at hzz); omega); have hz_w4_w2_0 : w2.heap.size < w4.heap.size := (by have hzz := hb_w4.size; (try simp only [World.size_alloc, World.size_setCell, World.size_drew, World.heap_drewN] at hzz); omega); have hs_w4 := hb_w4.size; (try simp only [World.size_alloc, World.size_setCell, World.size_drew, World.heap_drewN] at hs_w4)
      go_wp2
      go_ret3
      exact ⟨rfl, (by repeat (first | exact Below.refl _ _ | assumption | (refine below_drewN ?_ _) | (refine Below.drew ?_) | (refine Below.alloc ?_ (by first | omega | (simp; omega) | simp) _) | (refine Below.setCell ?_ (by first | omega | (simp; omega) | simp) _) | (refine below_trans ?_ (by assumption) (by first | omega | (simp; omega) | simp))))⟩
end
end Go.Proofs.YtbefjhgegoginaaDoor
