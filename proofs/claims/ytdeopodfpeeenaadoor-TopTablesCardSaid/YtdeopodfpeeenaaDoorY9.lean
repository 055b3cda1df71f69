/- Contracts of package ephem: Check, Home, Get, Put. -/
import Derived.Test.YtdeopodfpeeenaaDoorY8
namespace Go.Proofs.YtdeopodfpeeenaaDoor
open Go.RowKit
set_option linter.unusedVariables false
set_option linter.unusedSimpArgs false

theorem EOwn.far {w : World} {B : Nat} {A : Option Addr} {l : List Es} (h : EOwn w B A l) {p : Addr} (hp : p.block < B) (u : Value) : EOwn (w.setCell p u) B A l := by
  by_cases hl : 0 < l.length
  · obtain ⟨g, e, h1, _⟩ := h.at_ hl
    exact h.off e (by omega) u
  · obtain rfl : l = [] := List.eq_nil_of_length_eq_zero (by omega)
    exact EOwn.nil _ _ _
theorem ETab.far {w : World} {B cap : Nat} {A : Option Addr} {l : List Es} (h : ETab w B A cap l) {p : Addr} (hp : p.block < B) (u : Value) : ETab (w.setCell p u) B A cap l := ⟨h.own.far hp u, h.nil_⟩
theorem fu_le (m : List Es) : frees m + useds m ≤ m.length := by
  unfold frees useds
  induction m with
  | nil => simp
  | cons x xs ih2 =>
    simp only [List.countP_cons, List.length_cons]
    by_cases a : x.s = 0 <;> by_cases b : x.s = 1 <;> simp [a, b] <;> omega
theorem OkT.z {l : List Es} (h : OkT l) : l.length = 0 ∨ Sz l.length := by
  rcases h with h | h
  · exact .inl h
  · exact .inr h.1
theorem OkT.good {l : List Es} (h : OkT l) (hn : l.length ≠ 0) : GoodT l := ⟨(h.x hn).1, (h.x hn).2.1⟩
theorem OkT.us48 {l : List Es} (h : OkT l) : (us l).length ≤ 48 := by
  rw [us_len]
  have := fu_le l
  have h64 := h.le
  rcases h with h | ⟨_, _, h3⟩ <;> omega
theorem OkT.gd {l : List Es} (h : OkT l) : 0 < (us l).length → GoodT l := fun h0 => h.good (by
  rw [us_len] at h0
  have := useds_le l
  omega)
/-- what Get answers -/
def GetT (l : List Es) (key : Nat) (v : Nat) (y : Int) : Prop :=
  (¬ OkT l ∧ v = 0 ∧ y = 2) ∨ (OkT l ∧ key = 0 ∧ v = 0 ∧ y = 7) ∨ (OkT l ∧ key ≠ 0 ∧ ¬ fd l key < l.length ∧ v = 0 ∧ y = 3) ∨ (OkT l ∧ key ≠ 0 ∧ fd l key < l.length ∧ v = (nthE l (fd l key)).v ∧ y = 0)
theorem GetT.ex (l : List Es) (key : Nat) : ∃ v y, GetT l key v y := by
  by_cases h : OkT l
  · by_cases h0 : key = 0
    · exact ⟨_, _, .inr (.inl ⟨h, h0, rfl, rfl⟩)⟩
    · by_cases hf : fd l key < l.length
      · exact ⟨_, _, .inr (.inr (.inr ⟨h, h0, hf, rfl, rfl⟩))⟩
      · exact ⟨_, _, .inr (.inr (.inl ⟨h, h0, hf, rfl, rfl⟩))⟩
  · exact ⟨_, _, .inl ⟨h, rfl, rfl⟩⟩
/-- what Put answers -/
def PutT (l : List Es) (key val : Nat) (r : List Es) (y : Int) : Prop :=
  (¬ OkT l ∧ r = [] ∧ y = 2) ∨ (OkT l ∧ key = 0 ∧ r = l ∧ y = 7) ∨ (OkT l ∧ key ≠ 0 ∧ fd l key < l.length ∧ r = updA l (fd l key) val ∧ y = 0) ∨
  (OkT l ∧ key ≠ 0 ∧ ¬ fd l key < l.length ∧ AccE l key ∧ r = lay l key val ∧ y = 0) ∨
  (OkT l ∧ key ≠ 0 ∧ ¬ fd l key < l.length ∧ ¬ AccE l key ∧ 64 < szN (us l).length ∧ r = l ∧ y = 6) ∨
  (OkT l ∧ key ≠ 0 ∧ ¬ fd l key < l.length ∧ ¬ AccE l key ∧ szN (us l).length ≤ 64 ∧ r = lay (reb l (szN (us l).length)) key val ∧ y = 0)
theorem PutT.ex (l : List Es) (key val : Nat) : ∃ r y, PutT l key val r y := by
  by_cases h : OkT l
  · by_cases h0 : key = 0
    · exact ⟨_, _, .inr (.inl ⟨h, h0, rfl, rfl⟩)⟩
    · by_cases hf : fd l key < l.length
      · exact ⟨_, _, .inr (.inr (.inl ⟨h, h0, hf, rfl, rfl⟩))⟩
      · by_cases ha : AccE l key
        · exact ⟨_, _, .inr (.inr (.inr (.inl ⟨h, h0, hf, ha, rfl, rfl⟩)))⟩
        · by_cases hs : 64 < szN (us l).length
          · exact ⟨_, _, .inr (.inr (.inr (.inr (.inl ⟨h, h0, hf, ha, hs, rfl, rfl⟩))))⟩
          · exact ⟨_, _, .inr (.inr (.inr (.inr (.inr ⟨h, h0, hf, ha, by omega, rfl, rfl⟩))))⟩
  · exact ⟨_, _, .inl ⟨h, rfl, rfl⟩⟩
section
variable {w : World} {A : Option Addr} {l : List Es} (cap : Nat)
theorem eget_any (hT : Tz w) (hr : ERow w w.heap.size A l) (hl : l.length ≤ 5864062014805) (hn : A = none → cap = 0) (key v : Nat) (y : Int) (hE : GetT l key v y) :
    Calls Tryd.prog 9 #[eph A l.length cap, .int .u64 (key : Nat)] w fun e w' => e = .returned (.tuple #[.int .u64 (v : Nat), .int .i64 y]) ∧ Below w.heap.size w w' := by
  rcases hE with ⟨hok, rfl, rfl⟩ | ⟨hok, rfl, rfl, rfl⟩ | ⟨hok, h0, hf, rfl, rfl⟩ | ⟨hok, h0, hf, rfl, rfl⟩
  · have HV := Lib.hid fun (w : World) hT hr => eview_any (w := w) (A := A) (l := l) cap hT hr hl hn _ _ (.inr ⟨hok, rfl, rfl⟩)
    clear hok
    unfold eph wrk at *
    go_enter Tryd.func9, Tryd.ntmps9
    go_wp2_with fail
    go_at_call 15
    refine (HV.out _ (hT.later (by repeat (first | exact Below.refl _ _ | assumption | (refine below_drewN ?_ _) | (refine Below.drew ?_) | (refine Below.alloc ?_ (by first | omega | (simp; omega) | simp) _) | (refine Below.setCell ?_ (by first | omega | (simp; omega) | simp) _) | (refine below_trans ?_ (by assumption) (by first | omega | (simp; omega) | simp))))) (hr.later (by repeat (first | exact Below.refl _ _ | assumption | (refine below_drewN ?_ _) | (refine Below.drew ?_) | (refine Below.alloc ?_ (by first | omega | (simp; omega) | simp) _) | (refine Below.setCell ?_ (by first | omega | (simp; omega) | simp) _) | (refine below_trans ?_ (by assumption) (by first | omega | (simp; omega) | simp)))))).mono ?_
    rintro e w1 ⟨rfl, hb_w1⟩
    obtain ⟨hc_w1, hf_w1⟩ := bcell hb_w1; have hz_w1_w_0 : w.heap.size < w1.heap.size := (by have hzz := hb_w1.size; (try simp only [World.size_alloc, World.size_setCell, World.size_drew, World.heap_drewN] at hzz); omega); have hs_w1 := hb_w1.size; (try simp only [World.size_alloc, World.size_setCell, World.size_drew, World.heap_drewN] at hs_w1)
    go_wp2
    go_ret2
    exact ⟨rfl, (by repeat (first | exact Below.refl _ _ | assumption | (refine below_drewN ?_ _) | (refine Below.drew ?_) | (refine Below.alloc ?_ (by first | omega | (simp; omega) | simp) _) | (refine Below.setCell ?_ (by first | omega | (simp; omega) | simp) _) | (refine below_trans ?_ (by assumption) (by first | omega | (simp; omega) | simp))))⟩
  · have HV := Lib.hid fun (w : World) hT hr => eview_any (w := w) (A := A) (l := l) cap hT hr hl hn _ _ (.inl ⟨hok, rfl, rfl⟩)
    clear hok
    unfold eph wrk at *
    go_enter Tryd.func9, Tryd.ntmps9
    go_wp2_with fail
    go_at_call 15
    refine (HV.out _ (hT.later (by repeat (first | exact Below.refl _ _ | assumption | (refine below_drewN ?_ _) | (refine Below.drew ?_) | (refine Below.alloc ?_ (by first | omega | (simp; omega) | simp) _) | (refine Below.setCell ?_ (by first | omega | (simp; omega) | simp) _) | (refine below_trans ?_ (by assumption) (by first | omega | (simp; omega) | simp))))) (hr.later (by repeat (first | exact Below.refl _ _ | assumption | (refine below_drewN ?_ _) | (refine Below.drew ?_) | (refine Below.alloc ?_ (by first | omega | (simp; omega) | simp) _) | (refine Below.setCell ?_ (by first | omega | (simp; omega) | simp) _) | (refine below_trans ?_ (by assumption) (by first | omega | (simp; omega) | simp)))))).mono ?_
    rintro e w1 ⟨rfl, hb_w1⟩
    obtain ⟨hc_w1, hf_w1⟩ := bcell hb_w1; have hz_w1_w_0 : w.heap.size < w1.heap.size := (by have hzz := hb_w1.size; (try simp only [World.size_alloc, World.size_setCell, World.size_drew, World.heap_drewN] at hzz); omega); have hs_w1 := hb_w1.size; (try simp only [World.size_alloc, World.size_setCell, World.size_drew, World.heap_drewN] at hs_w1)
    go_wp2
    go_ret2
    exact ⟨rfl, (by repeat (first | exact Below.refl _ _ | assumption | (refine below_drewN ?_ _) | (refine Below.drew ?_) | (refine Below.alloc ?_ (by first | omega | (simp; omega) | simp) _) | (refine Below.setCell ?_ (by first | omega | (simp; omega) | simp) _) | (refine below_trans ?_ (by assumption) (by first | omega | (simp; omega) | simp))))⟩
  · have HV := Lib.hid fun (w : World) hT hr => eview_any (w := w) (A := A) (l := l) cap hT hr hl hn _ _ (.inl ⟨hok, rfl, rfl⟩)
    have HF := Lib.hid fun (w : World) hT hr => efind_any (w := w) (A := A) (l := l) cap key hT hr hok.z
    rw [toI_no hf] at HF
    have f1 : ((key : Int) == 0) = false := by rw [beq_eq_false_iff_ne]; omega
    clear hok hf h0
    unfold eph wrk at *
    go_enter Tryd.func9, Tryd.ntmps9
    go_wp2_with fail
    go_at_call 15
    refine (HV.out _ (hT.later (by repeat (first | exact Below.refl _ _ | assumption | (refine below_drewN ?_ _) | (refine Below.drew ?_) | (refine Below.alloc ?_ (by first | omega | (simp; omega) | simp) _) | (refine Below.setCell ?_ (by first | omega | (simp; omega) | simp) _) | (refine below_trans ?_ (by assumption) (by first | omega | (simp; omega) | simp))))) (hr.later (by repeat (first | exact Below.refl _ _ | assumption | (refine below_drewN ?_ _) | (refine Below.drew ?_) | (refine Below.alloc ?_ (by first | omega | (simp; omega) | simp) _) | (refine Below.setCell ?_ (by first | omega | (simp; omega) | simp) _) | (refine below_trans ?_ (by assumption) (by first | omega | (simp; omega) | simp)))))).mono ?_
    rintro e w1 ⟨rfl, hb_w1⟩
    obtain ⟨hc_w1, hf_w1⟩ := bcell hb_w1; have hz_w1_w_0 : w.heap.size < w1.heap.size := (by have hzz := hb_w1.size; (try simp only [World.size_alloc, World.size_setCell, World.size_drew, World.heap_drewN] at hzz); omega); have hs_w1 := hb_w1.size; (try simp only [World.size_alloc, World.size_setCell, World.size_drew, World.heap_drewN] at hs_w1)
    have b1 : Below w.heap.size w w1 := (by repeat (first | exact Below.refl _ _ | assumption | (refine below_drewN ?_ _) | (refine Below.drew ?_) | (refine Below.alloc ?_ (by first | omega | (simp; omega) | simp) _) | (refine Below.setCell ?_ (by first | omega | (simp; omega) | simp) _) | (refine below_trans ?_ (by assumption) (by first | omega | (simp; omega) | simp))))
    go_wp2_with fail
    go_at_call 17
    refine (HF.out _ ((hT.later b1).later (by repeat (first | exact Below.refl _ _ | assumption | (refine below_drewN ?_ _) | (refine Below.drew ?_) | (refine Below.alloc ?_ (by first | omega | (simp; omega) | simp) _) | (refine Below.setCell ?_ (by first | omega | (simp; omega) | simp) _) | (refine below_trans ?_ (by assumption) (by first | omega | (simp; omega) | simp))))) ((hr.later b1).later (by repeat (first | exact Below.refl _ _ | assumption | (refine below_drewN ?_ _) | (refine Below.drew ?_) | (refine Below.alloc ?_ (by first | omega | (simp; omega) | simp) _) | (refine Below.setCell ?_ (by first | omega | (simp; omega) | simp) _) | (refine below_trans ?_ (by assumption) (by first | omega | (simp; omega) | simp)))))).mono ?_
    rintro e w2 ⟨rfl, hb_w2⟩
    obtain ⟨hc_w2, hf_w2⟩ := bcell hb_w2; have hz_w2_w1_0 : w1.heap.size < w2.heap.size := (by have hzz := hb_w2.size; (try simp only [World.size_alloc, World.size_setCell, World.size_drew, World.heap_drewN] at hzz); omega); have hs_w2 := hb_w2.size; (try simp only [World.size_alloc, World.size_setCell, World.size_drew, World.heap_drewN] at hs_w2)
    go_wp2
    go_ret2
    exact ⟨rfl, (by repeat (first | exact Below.refl _ _ | assumption | (refine below_drewN ?_ _) | (refine Below.drew ?_) | (refine Below.alloc ?_ (by first | omega | (simp; omega) | simp) _) | (refine Below.setCell ?_ (by first | omega | (simp; omega) | simp) _) | (refine below_trans ?_ (by assumption) (by first | omega | (simp; omega) | simp))))⟩
  · have HV := Lib.hid fun (w : World) hT hr => eview_any (w := w) (A := A) (l := l) cap hT hr hl hn _ _ (.inl ⟨hok, rfl, rfl⟩)
    have HF := Lib.hid fun (w : World) hT hr => efind_any (w := w) (A := A) (l := l) cap key hT hr hok.z
    rw [toI_lt hf] at HF
    have f1 : ((key : Int) == 0) = false := by rw [beq_eq_false_iff_ne]; omega
    obtain ⟨b, off, rfl, hbb, hc⟩ := hr.at_ (by omega)
    obtain ⟨c0, c1, c2⟩ := hc _ hf
    generalize fd l key = a at *
    generalize (nthE l a).v = v at *
    have i1 : (a : Int) < (l.length : Int) := by omega
    have i2 : (0 : Int) ≤ (a : Int) := by omega
    have f2 : decide ((a : Int) < 0) = false := decide_eq_false (by omega)
    clear hok hf h0 hc
    unfold eph wrk at *
    go_enter Tryd.func9, Tryd.ntmps9
    go_wp2_with fail
    go_at_call 15
    refine (HV.out _ (hT.later (by repeat (first | exact Below.refl _ _ | assumption | (refine below_drewN ?_ _) | (refine Below.drew ?_) | (refine Below.alloc ?_ (by first | omega | (simp; omega) | simp) _) | (refine Below.setCell ?_ (by first | omega | (simp; omega) | simp) _) | (refine below_trans ?_ (by assumption) (by first | omega | (simp; omega) | simp))))) (hr.later (by repeat (first | exact Below.refl _ _ | assumption | (refine below_drewN ?_ _) | (refine Below.drew ?_) | (refine Below.alloc ?_ (by first | omega | (simp; omega) | simp) _) | (refine Below.setCell ?_ (by first | omega | (simp; omega) | simp) _) | (refine below_trans ?_ (by assumption) (by first | omega | (simp; omega) | simp)))))).mono ?_
    rintro e w1 ⟨rfl, hb_w1⟩
    obtain ⟨hc_w1, hf_w1⟩ := bcell hb_w1; have hz_w1_w_0 : w.heap.size < w1.heap.size := (by have hzz := hb_w1.size; (try simp only [World.size_alloc, World.size_setCell, World.size_drew, World.heap_drewN] at hzz); omega); have hs_w1 := hb_w1.size; (try simp only [World.size_alloc, World.size_setCell, World.size_drew, World.heap_drewN] at hs_w1)
    have b1 : Below w.heap.size w w1 := (by repeat (first | exact Below.refl _ _ | assumption | (refine below_drewN ?_ _) | (refine Below.drew ?_) | (refine Below.alloc ?_ (by first | omega | (simp; omega) | simp) _) | (refine Below.setCell ?_ (by first | omega | (simp; omega) | simp) _) | (refine below_trans ?_ (by assumption) (by first | omega | (simp; omega) | simp))))
    clear hc_w1 hf_w1
    go_wp2_with fail
    go_at_call 17
    refine (HF.out _ ((hT.later b1).later (by repeat (first | exact Below.refl _ _ | assumption | (refine below_drewN ?_ _) | (refine Below.drew ?_) | (refine Below.alloc ?_ (by first | omega | (simp; omega) | simp) _) | (refine Below.setCell ?_ (by first | omega | (simp; omega) | simp) _) | (refine below_trans ?_ (by assumption) (by first | omega | (simp; omega) | simp))))) ((hr.later b1).later (by repeat (first | exact Below.refl _ _ | assumption | (refine below_drewN ?_ _) | (refine Below.drew ?_) | (refine Below.alloc ?_ (by first | omega | (simp; omega) | simp) _) | (refine Below.setCell ?_ (by first | omega | (simp; omega) | simp) _) | (refine below_trans ?_ (by assumption) (by first | omega | (simp; omega) | simp)))))).mono ?_
    rintro e w2 ⟨rfl, hb_w2⟩
    obtain ⟨hc_w2, hf_w2⟩ := bcell hb_w2; have hz_w2_w1_0 : w1.heap.size < w2.heap.size := (by have hzz := hb_w2.size; (try simp only [World.size_alloc, World.size_setCell, World.size_drew, World.heap_drewN] at hzz); omega); have hs_w2 := hb_w2.size; (try simp only [World.size_alloc, World.size_setCell, World.size_drew, World.heap_drewN] at hs_w2)
    have b2 : Below w.heap.size w w2 := (by repeat (first | exact Below.refl _ _ | assumption | (refine below_drewN ?_ _) | (refine Below.drew ?_) | (refine Below.alloc ?_ (by first | omega | (simp; omega) | simp) _) | (refine Below.setCell ?_ (by first | omega | (simp; omega) | simp) _) | (refine below_trans ?_ (by assumption) (by first | omega | (simp; omega) | simp))))
    have k2 : w2.cell? ⟨w1.heap.size, 0, none⟩ = some (.slice (some ⟨b, off, none⟩) l.length cap) := (hc_w2 _ _ (by first | omega | (simp; omega) | simp)).trans (by simp [go_sem])
    have e2 := (b2.cell (p := ⟨b, off + a * 3 + 2, none⟩) hbb).trans c2
    clear hc_w2 hf_w2
    go_wp2
    go_ret2
    exact ⟨rfl, (by repeat (first | exact Below.refl _ _ | assumption | (refine below_drewN ?_ _) | (refine Below.drew ?_) | (refine Below.alloc ?_ (by first | omega | (simp; omega) | simp) _) | (refine Below.setCell ?_ (by first | omega | (simp; omega) | simp) _) | (refine below_trans ?_ (by assumption) (by first | omega | (simp; omega) | simp))))⟩
end
end Go.Proofs.YtdeopodfpeeenaaDoor
