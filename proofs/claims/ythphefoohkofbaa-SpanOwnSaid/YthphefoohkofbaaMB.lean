/- MB, in one text: S1, S2, S3, S4, S5, S6, S7, S8, S9, S10, S11, S12, S13, S14, S15, S16, S17. -/
import Derived.Test.YthphefoohkofbaaMA
import Derived.Deep.RegionHeld3
import Derived.Laws.ResultCell
import Derived.Shelf.Abstract
/- Plain facts of spans; contracts of package span's leaves. -/
namespace Go.Proofs.Ythphefoohkofbaa
open Go.RowKit
set_option linter.unusedVariables false
set_option linter.unusedSimpArgs false

/-- a span's numbers, bits and mark -/
structure Sd where
  f : Int
  p : Int
  z : Int
  an : Int
  aw : List Nat
  mn : Int
  mw : List Nat
  s : Bool
/-- a span as it stands: its words lie at A and M -/
def spv (d : Sd) (A : Option Addr) (ca : Nat) (M : Option Addr) (cm : Nat) : Value :=
  .agg #[.int .i64 d.f, .int .i64 d.p, .int .i64 d.z, .int .i64 d.an, .slice A d.aw.length ca, .int .i64 d.mn, .slice M d.mw.length cm, .bool d.s]
def Sized (p z : Int) : Prop := ((z = 2 ∨ z = 4 ∨ z = 8 ∨ z = 16) ∧ p = 1) ∨ (z = 0 ∧ 2 ≤ p ∧ p ≤ 4)
instance (p z : Int) : Decidable (Sized p z) := inferInstanceAs (Decidable (_ ∨ _))
def Placed (f p : Int) : Prop := 0 ≤ f ∧ f + p ≤ 1024
instance (f p : Int) : Decidable (Placed f p) := inferInstanceAs (Decidable (_ ∧ _))
def slotsOf (z : Int) : Int := if z = 0 then 1 else 16 / z
theorem Sized.slots {p z : Int} (h : Sized p z) : 1 ≤ slotsOf z ∧ slotsOf z ≤ 8 ∧ slotsOf z * z ≤ 16 ∧ 0 ≤ z ∧ z ≤ 16 ∧ 1 ≤ p ∧ p ≤ 4 := by
  rcases h with ⟨rfl | rfl | rfl | rfl, rfl⟩ | ⟨rfl, h1, h2⟩
  all_goals
    simp [slotsOf]
    try omega
/-- when a span is right -/
structure Ok1 (d : Sd) : Prop where
  sized : Sized d.p d.z
  placed : Placed d.f d.p
  a : Right d.an d.aw
  an : d.an = slotsOf d.z
  m : Right d.mn d.mw
  mn : d.mn = slotsOf d.z
  sub : ∀ i, i < (slotsOf d.z).toNat → tb d.mw i = true → tb d.aw i = true
theorem Ok1.aw {d : Sd} (h : Ok1 d) : d.aw.length = 1 := by
  have := h.a.2.2.1
  have := h.an
  have := h.sized.slots
  omega
theorem Ok1.mw {d : Sd} (h : Ok1 d) : d.mw.length = 1 := by
  have := h.m.2.2.1
  have := h.mn
  have := h.sized.slots
  omega

section
variable {w : World} (d : Sd) (A : Option Addr) (ca : Nat) (M : Option Addr) (cm : Nat)
theorem sslots_any {p : Int} (h : Sized p d.z) : Calls Try.prog 37 #[spv d A ca M cm] w fun e w' => e = .returned (.int .i64 (slotsOf d.z)) ∧ Below w.heap.size w w' := by
  obtain ⟨f, p', z, an, aw, mn, mw, s⟩ := d
  simp only at h
  unfold spv
  simp only
  rcases h with ⟨rfl | rfl | rfl | rfl, rfl⟩ | ⟨rfl, h1, h2⟩
  all_goals
    go_enter Try.func37, Try.ntmps37
    go_wp2
    go_ret
    exact ⟨rfl, (by repeat (first | exact Below.refl _ _ | assumption | (refine below_drewN ?_ _) | (refine Below.drew ?_) | (refine Below.alloc ?_ (by first | omega | (simp; omega) | simp) _) | (refine Below.setCell ?_ (by first | omega | (simp; omega) | simp) _) | (refine below_trans ?_ (by assumption) (by first | omega | (simp; omega) | simp))))⟩
theorem sbehind_any (h : -9000000000000000000 ≤ d.f ∧ d.f ≤ 9000000000000000000) (hp : 0 ≤ d.p ∧ d.p ≤ 4) : Calls Try.prog 46 #[spv d A ca M cm] w fun e w' => e = .returned (.int .i64 (d.f + d.p)) ∧ Below w.heap.size w w' := by
  obtain ⟨f, p', z, an, aw, mn, mw, s⟩ := d
  simp only at h hp
  unfold spv
  simp only
  go_enter Try.func46, Try.ntmps46
  go_wp2
  go_ret
  exact ⟨rfl, (by repeat (first | exact Below.refl _ _ | assumption | (refine below_drewN ?_ _) | (refine Below.drew ?_) | (refine Below.alloc ?_ (by first | omega | (simp; omega) | simp) _) | (refine Below.setCell ?_ (by first | omega | (simp; omega) | simp) _) | (refine below_trans ?_ (by assumption) (by first | omega | (simp; omega) | simp))))⟩
theorem spage_any (n : Int) (h0 : 0 ≤ n) (h1 : n ≤ 2000) : Calls Try.prog 49 #[.int .i64 n] w fun e w' => e = .returned (.int .u64 (n * 16)) ∧ w = w' := by
  go_enter Try.func49, Try.ntmps49
  go_wp2
  go_ret
  exact ⟨rfl, rfl⟩
theorem saddress_any (k : Int) (h0 : 0 ≤ d.f) (h1 : d.f ≤ 1024) (hz : 0 ≤ d.z ∧ d.z ≤ 16) (k0 : 0 ≤ k) (k1 : k ≤ 100) (m : Int) (hm : k * d.z = m) (hm0 : 0 ≤ m) (hm1 : m ≤ 1600) : Calls Try.prog 41 #[spv d A ca M cm, .int .i64 k] w fun e w' => e = .returned (.int .u64 (d.f * 16 + m)) ∧ Below w.heap.size w w' := by
  obtain ⟨f, p', z, an, aw, mn, mw, s⟩ := d
  simp only at h0 h1 hz hm
  unfold spv
  simp only
  have hmw : IntKind.i64.wrap m = m := by rw [IntWalk.i64_in _ (by omega)]
  have hmu : IntKind.u64.wrap m = m := by rw [IntKind.wrap_u64]; omega
  have hms : IntKind.u64.wrap (f * 16 + m) = f * 16 + m := by rw [IntKind.wrap_u64]; omega
  go_enter Try.func41, Try.ntmps41
  go_wp2_with fail
  go_region_held3 (fun X : World => X.cell? ⟨w.heap.size, 0, none⟩ = some (.int .i64 f) ∧ X.cell? ⟨w.heap.size, 2, none⟩ = some (.int .i64 z))
    ((refine ⟨?_, ?_⟩ <;> first | assumption | (simp [go_sem]; done)))
    ((go_at_call 49; refine (spage_any f (by omega) (by omega)).mono ?_; rintro e w1 ⟨rfl, rfl⟩))
  all_goals
    go_wp2
    go_ret
    exact ⟨rfl, (by repeat (first | exact Below.refl _ _ | assumption | (refine below_drewN ?_ _) | (refine Below.drew ?_) | (refine Below.alloc ?_ (by first | omega | (simp; omega) | simp) _) | (refine Below.setCell ?_ (by first | omega | (simp; omega) | simp) _) | (refine below_trans ?_ (by assumption) (by first | omega | (simp; omega) | simp))))⟩
theorem ssized_any (b : Bool) (hb : decide (Sized d.p d.z) = b) : Calls Try.prog 34 #[spv d A ca M cm] w fun e w' => e = .returned (.bool b) ∧ Below w.heap.size w w' := by
  obtain ⟨f, p, z, an, aw, mn, mw, s⟩ := d
  simp only at hb
  unfold spv
  simp only
  subst hb
  by_cases h0 : z = 0
  · subst h0
    by_cases h2 : 2 ≤ p
    · have d2 : decide (2 ≤ p) = true := decide_eq_true h2
      by_cases h4 : p ≤ 4
      · have d4 : decide (p ≤ 4) = true := decide_eq_true h4
        rw [show decide (Sized p 0) = true from decide_eq_true (.inr ⟨rfl, h2, h4⟩)]
        go_enter Try.func34, Try.ntmps34
        go_wp2
        go_ret
        exact ⟨rfl, (by repeat (first | exact Below.refl _ _ | assumption | (refine below_drewN ?_ _) | (refine Below.drew ?_) | (refine Below.alloc ?_ (by first | omega | (simp; omega) | simp) _) | (refine Below.setCell ?_ (by first | omega | (simp; omega) | simp) _) | (refine below_trans ?_ (by assumption) (by first | omega | (simp; omega) | simp))))⟩
      · have d4 : decide (p ≤ 4) = false := decide_eq_false h4
        rw [show decide (Sized p 0) = false from decide_eq_false (by unfold Sized; omega)]
        go_enter Try.func34, Try.ntmps34
        go_wp2
        go_ret
        exact ⟨rfl, (by repeat (first | exact Below.refl _ _ | assumption | (refine below_drewN ?_ _) | (refine Below.drew ?_) | (refine Below.alloc ?_ (by first | omega | (simp; omega) | simp) _) | (refine Below.setCell ?_ (by first | omega | (simp; omega) | simp) _) | (refine below_trans ?_ (by assumption) (by first | omega | (simp; omega) | simp))))⟩
    · have d2 : decide (2 ≤ p) = false := decide_eq_false h2
      rw [show decide (Sized p 0) = false from decide_eq_false (by unfold Sized; omega)]
      go_enter Try.func34, Try.ntmps34
      go_wp2
      go_ret
      exact ⟨rfl, (by repeat (first | exact Below.refl _ _ | assumption | (refine below_drewN ?_ _) | (refine Below.drew ?_) | (refine Below.alloc ?_ (by first | omega | (simp; omega) | simp) _) | (refine Below.setCell ?_ (by first | omega | (simp; omega) | simp) _) | (refine below_trans ?_ (by assumption) (by first | omega | (simp; omega) | simp))))⟩
  · have e0 : (z == 0) = false := by simpa using h0
    by_cases hz : z = 2 ∨ z = 4 ∨ z = 8 ∨ z = 16
    · have hB : decide (Sized p z) = (p == 1) := by
        rw [Bool.eq_iff_iff]
        simp only [decide_eq_true_eq, beq_iff_eq]
        unfold Sized
        omega
      rw [hB]
      clear hB e0
      rcases hz with rfl | rfl | rfl | rfl
      all_goals
        go_enter Try.func34, Try.ntmps34
        go_wp2
        go_ret
        exact ⟨rfl, (by repeat (first | exact Below.refl _ _ | assumption | (refine below_drewN ?_ _) | (refine Below.drew ?_) | (refine Below.alloc ?_ (by first | omega | (simp; omega) | simp) _) | (refine Below.setCell ?_ (by first | omega | (simp; omega) | simp) _) | (refine below_trans ?_ (by assumption) (by first | omega | (simp; omega) | simp))))⟩
    · have e2 : (z == 2) = false := by simp; omega
      have e4 : (z == 4) = false := by simp; omega
      have e8 : (z == 8) = false := by simp; omega
      have e16 : (z == 16) = false := by simp; omega
      rw [show decide (Sized p z) = false from decide_eq_false (by unfold Sized; omega)]
      clear hz
      go_enter Try.func34, Try.ntmps34
      go_wp2
      go_ret
      exact ⟨rfl, (by repeat (first | exact Below.refl _ _ | assumption | (refine below_drewN ?_ _) | (refine Below.drew ?_) | (refine Below.alloc ?_ (by first | omega | (simp; omega) | simp) _) | (refine Below.setCell ?_ (by first | omega | (simp; omega) | simp) _) | (refine below_trans ?_ (by assumption) (by first | omega | (simp; omega) | simp))))⟩
theorem splaced_any (hp : 1 ≤ d.p ∧ d.p ≤ 4) (b : Bool) (hb : decide (Placed d.f d.p) = b) : Calls Try.prog 35 #[spv d A ca M cm] w fun e w' => e = .returned (.bool b) ∧ Below w.heap.size w w' := by
  obtain ⟨f, p, z, an, aw, mn, mw, s⟩ := d
  simp only at hb hp
  unfold spv
  simp only
  subst hb
  have ew : IntKind.i64.wrap (1024 - p) = 1024 - p := by rw [IntWalk.i64_in _ (by omega)]
  by_cases h0 : 0 ≤ f
  · have d0 : decide (0 ≤ f) = true := decide_eq_true h0
    by_cases h1 : f ≤ 1024 - p
    · have d1 : decide (f ≤ 1024 - p) = true := decide_eq_true h1
      rw [show decide (Placed f p) = true from decide_eq_true ⟨h0, by omega⟩]
      go_enter Try.func35, Try.ntmps35
      go_wp2
      go_ret
      exact ⟨rfl, (by repeat (first | exact Below.refl _ _ | assumption | (refine below_drewN ?_ _) | (refine Below.drew ?_) | (refine Below.alloc ?_ (by first | omega | (simp; omega) | simp) _) | (refine Below.setCell ?_ (by first | omega | (simp; omega) | simp) _) | (refine below_trans ?_ (by assumption) (by first | omega | (simp; omega) | simp))))⟩
    · have d1 : decide (f ≤ 1024 - p) = false := decide_eq_false h1
      rw [show decide (Placed f p) = false from decide_eq_false (by unfold Placed; omega)]
      go_enter Try.func35, Try.ntmps35
      go_wp2
      go_ret
      exact ⟨rfl, (by repeat (first | exact Below.refl _ _ | assumption | (refine below_drewN ?_ _) | (refine Below.drew ?_) | (refine Below.alloc ?_ (by first | omega | (simp; omega) | simp) _) | (refine Below.setCell ?_ (by first | omega | (simp; omega) | simp) _) | (refine below_trans ?_ (by assumption) (by first | omega | (simp; omega) | simp))))⟩
  · have d0 : decide (0 ≤ f) = false := decide_eq_false h0
    rw [show decide (Placed f p) = false from decide_eq_false (by unfold Placed; omega)]
    go_enter Try.func35, Try.ntmps35
    go_wp2
    go_ret
    exact ⟨rfl, (by repeat (first | exact Below.refl _ _ | assumption | (refine below_drewN ?_ _) | (refine Below.drew ?_) | (refine Below.alloc ?_ (by first | omega | (simp; omega) | simp) _) | (refine Below.setCell ?_ (by first | omega | (simp; omega) | simp) _) | (refine below_trans ?_ (by assumption) (by first | omega | (simp; omega) | simp))))⟩
end
/-- a span that lies in block g from o on -/
structure Sp8 (w : World) (g o : Nat) (d : Sd) (A : Option Addr) (ca : Nat) (M : Option Addr) (cm : Nat) : Prop where
  c0 : w.cell? ⟨g, o, none⟩ = some (.int .i64 d.f)
  c1 : w.cell? ⟨g, o + 1, none⟩ = some (.int .i64 d.p)
  c2 : w.cell? ⟨g, o + 2, none⟩ = some (.int .i64 d.z)
  c3 : w.cell? ⟨g, o + 3, none⟩ = some (.int .i64 d.an)
  c4 : w.cell? ⟨g, o + 4, none⟩ = some (.slice A d.aw.length ca)
  c5 : w.cell? ⟨g, o + 5, none⟩ = some (.int .i64 d.mn)
  c6 : w.cell? ⟨g, o + 6, none⟩ = some (.slice M d.mw.length cm)
  c7 : w.cell? ⟨g, o + 7, none⟩ = some (.bool d.s)
theorem Sp8.lt {w : World} {g o ca cm : Nat} {d : Sd} {A M : Option Addr} (h : Sp8 w g o d A ca M cm) : g < w.heap.size := World.block_lt_of_cell? w _ h.c0
theorem Sp8.below {w w' : World} {B g o ca cm : Nat} {d : Sd} {A M : Option Addr} (h : Sp8 w g o d A ca M cm) (hb : Below B w w') (hg : g < B) : Sp8 w' g o d A ca M cm :=
  ⟨((bcell hb).1 _ _ hg).trans h.c0, ((bcell hb).1 _ _ hg).trans h.c1, ((bcell hb).1 _ _ hg).trans h.c2, ((bcell hb).1 _ _ hg).trans h.c3, ((bcell hb).1 _ _ hg).trans h.c4, ((bcell hb).1 _ _ hg).trans h.c5, ((bcell hb).1 _ _ hg).trans h.c6, ((bcell hb).1 _ _ hg).trans h.c7⟩
theorem Sp8.later {w w' : World} {g o ca cm : Nat} {d : Sd} {A M : Option Addr} (h : Sp8 w g o d A ca M cm) (hb : Below w.heap.size w w') : Sp8 w' g o d A ca M cm := h.below hb h.lt
theorem Sp8.new (w : World) (d : Sd) (A : Option Addr) (ca : Nat) (M : Option Addr) (cm : Nat) (t : TypeId) :
    Sp8 (w.alloc (.cells #[.int .i64 d.f, .int .i64 d.p, .int .i64 d.z, .int .i64 d.an, .slice A d.aw.length ca, .int .i64 d.mn, .slice M d.mw.length cm, .bool d.s] t)) w.heap.size 0 d A ca M cm := by
  constructor <;> simp [go_sem]
end Go.Proofs.Ythphefoohkofbaa

/- Contracts of package span: what is recorded of a span, and whether it is right. -/
namespace Go.Proofs.Ythphefoohkofbaa
open Go.RowKit
set_option linter.unusedVariables false
set_option linter.unusedSimpArgs false

/-- what is recorded of a span is right -/
def Rec (d : Sd) : Prop := d.an = slotsOf d.z ∧ d.mn = slotsOf d.z ∧ Right d.an d.aw ∧ Right d.mn d.mw ∧ ∀ i, i < (slotsOf d.z).toNat → tb d.mw i = true → tb d.aw i = true
theorem ok1_iff (d : Sd) : Ok1 d ↔ (Sized d.p d.z ∧ Placed d.f d.p ∧ Rec d) :=
  ⟨fun h => ⟨h.sized, h.placed, h.an, h.mn, h.a, h.m, h.sub⟩, fun ⟨h1, h2, h3, h4, h5, h6, h7⟩ => ⟨h1, h2, h5, h3, h6, h4, h7⟩⟩
theorem andNot_zero (x y : Nat) (hx : x < W64) (hy : y < W64) :
    (Go.bits .andNot .u64 (x : Int) (y : Int) == 0) = true ↔ ∀ i, i < 64 → x.testBit i = true → y.testBit i = true := by
  have hx' : x < 18446744073709551616 := hx
  have hy' : y < 2 ^ 64 := hy
  rw [u64_andNot_nat x y hx' hy', beq_iff_eq]
  have e : (18446744073709551615 - y : Nat) = 2 ^ 64 - (y + 1) := by omega
  rw [e]
  constructor
  · intro h i hi hb
    have h' : x &&& (2 ^ 64 - (y + 1)) = 0 := by omega
    have h2 := congrArg (fun v => Nat.testBit v i) h'
    simp only [Nat.testBit_and, Nat.testBit_two_pow_sub_succ hy', hb, Nat.zero_testBit, Bool.true_and] at h2
    simpa [hi] using h2
  · intro h
    have h' : x &&& (2 ^ 64 - (y + 1)) = 0 := by
      apply Nat.eq_of_testBit_eq
      intro j
      rw [Nat.testBit_and, Nat.testBit_two_pow_sub_succ hy', Nat.zero_testBit]
      by_cases hj : j < 64
      · cases hxj : x.testBit j
        · rfl
        · simp [h j hj hxj]
      · simp [hj]
    rw [h']
    rfl
/-- what the words of a span that is recorded rightly say of each other -/
theorem sub_iff {n : Int} {aw mw : List Nat} (h1 : 1 ≤ n) (h8 : n ≤ 8) (ha : Right n aw) (hm : Right n mw) :
    (∀ i, i < 64 → (mw.getD 0 0).testBit i = true → (aw.getD 0 0).testBit i = true) ↔ (∀ i, i < n.toNat → tb mw i = true → tb aw i = true) := by
  have la : aw.length = 1 := by have := ha.2.2.1; omega
  have lm : mw.length = 1 := by have := hm.2.2.1; omega
  have ea : ∀ i, i < 64 → tb aw i = (aw.getD 0 0).testBit i := fun i hi => by unfold tb; rw [show i / 64 = 0 by omega, show i % 64 = i by omega]
  have em : ∀ i, i < 64 → tb mw i = (mw.getD 0 0).testBit i := fun i hi => by unfold tb; rw [show i / 64 = 0 by omega, show i % 64 = i by omega]
  constructor
  · intro h i hi hb
    rw [ea i (by omega)]
    rw [em i (by omega)] at hb
    exact h i (by omega) hb
  · intro h i hi hb
    rw [← em i hi] at hb
    rw [← ea i hi]
    by_cases hn : i < n.toNat
    · exact h i hn hb
    · rw [hm.2.2.2 i (by omega) (by omega)] at hb
      cases hb
section
variable {w : World} {d : Sd} {A M : Option Addr} (ca cm : Nat)
set_option maxHeartbeats 1000000 in
theorem srecorded_any {p : Int} (h : Sized p d.z) (hA : Row w w.heap.size A d.aw) (hM : Row w w.heap.size M d.mw) (b : Bool) (hb : b = true ↔ Rec d) :
    Calls Try.prog 66 #[spv d A ca M cm] w fun e w' => e = .returned (.bool b) ∧ Below w.heap.size w w' := by
  have hs := h.slots
  have S := fun (w : World) => sslots_any (w := w) d A ca M cm h
  have SS := Lib.hid S
  clear h S
  unfold Rec at hb
  obtain ⟨f, p', z, an, aw, mn, mw, s⟩ := d
  simp only at hb hs hA hM SS
  generalize slotsOf z = n at hb SS hs
  unfold spv at SS ⊢
  simp only at SS ⊢
  by_cases h1 : an = n
  · subst h1
    have d1 : (an != an) = false := bne_self_eq_false _
    by_cases h2 : mn = an
    · subst h2
      by_cases h3 : Right mn aw
      · have H3 := Lib.hid h3
        by_cases h4 : Right mn mw
        · have H4 := Lib.hid h4
          have la : 0 < aw.length := by have := h3.2.2.1; omega
          have lm : 0 < mw.length := by have := h4.2.2.1; omega
          have hsub := sub_iff hs.1 hs.2.1 h3 h4
          have hz := andNot_zero (mw.getD 0 0) (aw.getD 0 0) (hM.words.at_ 0) (hA.words.at_ 0)
          have hbb : (Go.bits .andNot .u64 ((mw.getD 0 0 : Nat) : Int) ((aw.getD 0 0 : Nat) : Int) == 0) = b := by
            rw [Bool.eq_iff_iff, hz, hb, hsub]
            exact ⟨fun h => ⟨rfl, rfl, h3, h4, h⟩, fun h => h.2.2.2.2⟩
          obtain ⟨ba, oa, rfl, hba, hca⟩ := hA.at_ (by omega)
          obtain ⟨bm, om, rfl, hbm, hcm⟩ := hM.at_ (by omega)
          have ka := hca 0 (by omega)
          have km := hcm 0 (by omega)
          obtain ⟨x, hx⟩ : ∃ x, Hid (aw.getD 0 0 = x) := ⟨_, rfl⟩
          obtain ⟨y, hy⟩ : ∃ y, Hid (mw.getD 0 0 = y) := ⟨_, rfl⟩
          rw [hx.out] at ka hbb
          rw [hy.out] at km hbb
          have ia : (0 : Int) < (aw.length : Int) := by omega
          have im : (0 : Int) < (mw.length : Int) := by omega
          clear hb hsub hz h3 h4 hca hcm
          go_enter Try.func66, Try.ntmps66
          go_wp2_with fail
          go_at_call 37
          refine (SS.out _).mono ?_
          rintro e w1 ⟨rfl, hb_w1⟩
          obtain ⟨hc_w1, hf_w1⟩ := bcell hb_w1; have hz_w1_w_0 : w.heap.size < w1.heap.size := (by have hzz := hb_w1.size; (try simp only [World.size_alloc, World.size_setCell, World.size_drew, World.heap_drewN] at hzz); omega); have hs_w1 := hb_w1.size; (try simp only [World.size_alloc, World.size_setCell, World.size_drew, World.heap_drewN] at hs_w1)
          go_wp2_with fail
          go_at_call 70
          refine (check_ok ca (hA.later (by repeat (first | exact Below.refl _ _ | assumption | (refine below_drewN ?_ _) | (refine Below.drew ?_) | (refine Below.alloc ?_ (by first | omega | (simp; omega) | simp) _) | (refine Below.setCell ?_ (by first | omega | (simp; omega) | simp) _) | (refine below_trans ?_ (by assumption) (by first | omega | (simp; omega) | simp))))) H3.out).mono ?_
          rintro e w2 ⟨rfl, hb_w2⟩
          obtain ⟨hc_w2, hf_w2⟩ := bcell hb_w2; have hz_w2_w_0 : w.heap.size < w2.heap.size := (by have hzz := hb_w2.size; (try simp only [World.size_alloc, World.size_setCell, World.size_drew, World.heap_drewN] at hzz); omega); have hs_w2 := hb_w2.size; (try simp only [World.size_alloc, World.size_setCell, World.size_drew, World.heap_drewN] at hs_w2)
          go_wp2_with fail
          go_at_call 70
          refine (check_ok cm (hM.later (by repeat (first | exact Below.refl _ _ | assumption | (refine below_drewN ?_ _) | (refine Below.drew ?_) | (refine Below.alloc ?_ (by first | omega | (simp; omega) | simp) _) | (refine Below.setCell ?_ (by first | omega | (simp; omega) | simp) _) | (refine below_trans ?_ (by assumption) (by first | omega | (simp; omega) | simp))))) H4.out).mono ?_
          rintro e w3 ⟨rfl, hb_w3⟩
          obtain ⟨hc_w3, hf_w3⟩ := bcell hb_w3; have hz_w3_w_0 : w.heap.size < w3.heap.size := (by have hzz := hb_w3.size; (try simp only [World.size_alloc, World.size_setCell, World.size_drew, World.heap_drewN] at hzz); omega); have hs_w3 := hb_w3.size; (try simp only [World.size_alloc, World.size_setCell, World.size_drew, World.heap_drewN] at hs_w3)
          have ka3 : w3.cell? ⟨ba, oa, none⟩ = _ := (hc_w3 _ _ (by first | omega | (simp; omega) | simp)).trans ((hc_w2 _ _ (by first | omega | (simp; omega) | simp)).trans ((hc_w1 _ _ (by first | omega | (simp; omega) | simp)).trans ((World.cell?_alloc_lt _ _ ⟨_, _, _⟩ hba).trans ka)))
          have km3 : w3.cell? ⟨bm, om, none⟩ = _ := (hc_w3 _ _ (by first | omega | (simp; omega) | simp)).trans ((hc_w2 _ _ (by first | omega | (simp; omega) | simp)).trans ((hc_w1 _ _ (by first | omega | (simp; omega) | simp)).trans ((World.cell?_alloc_lt _ _ ⟨_, _, _⟩ hbm).trans km)))
          have k4 : w3.cell? ⟨w.heap.size, 4, none⟩ = some (.slice (some ⟨ba, oa, none⟩) aw.length ca) := (hc_w3 _ _ (by first | omega | (simp; omega) | simp)).trans ((hc_w2 _ _ (by first | omega | (simp; omega) | simp)).trans ((hc_w1 _ _ (by first | omega | (simp; omega) | simp)).trans (by simp [go_sem])))
          have k6 : w3.cell? ⟨w.heap.size, 6, none⟩ = some (.slice (some ⟨bm, om, none⟩) mw.length cm) := (hc_w3 _ _ (by first | omega | (simp; omega) | simp)).trans ((hc_w2 _ _ (by first | omega | (simp; omega) | simp)).trans ((hc_w1 _ _ (by first | omega | (simp; omega) | simp)).trans (by simp [go_sem])))
          go_wp2_with fail
          go_region_held3 (fun X : World => X.cell? ⟨w.heap.size, 4, none⟩ = some (.slice (some ⟨ba, oa, none⟩) aw.length ca) ∧ X.cell? ⟨w.heap.size, 6, none⟩ = some (.slice (some ⟨bm, om, none⟩) mw.length cm) ∧ X.cell? ⟨ba, oa, none⟩ = some (.int .u64 (x : Nat)) ∧ X.cell? ⟨bm, om, none⟩ = some (.int .u64 (y : Nat)))
            ((refine ⟨?_, ?_, ?_, ?_⟩ <;> first | assumption | (simp [go_sem]; done))) (fail)
          all_goals
            go_wp2
            go_ret
            exact ⟨by rw [← hbb]; rfl, (by repeat (first | exact Below.refl _ _ | assumption | (refine below_drewN ?_ _) | (refine Below.drew ?_) | (refine Below.alloc ?_ (by first | omega | (simp; omega) | simp) _) | (refine Below.setCell ?_ (by first | omega | (simp; omega) | simp) _) | (refine below_trans ?_ (by assumption) (by first | omega | (simp; omega) | simp))))⟩
        · obtain rfl : b = false := by
            cases b
            · rfl
            · exact absurd (hb.1 rfl).2.2.2.1 h4
          have H4 := Lib.hid h4
          clear hb h3 h4
          go_enter Try.func66, Try.ntmps66
          go_wp2_with fail
          go_at_call 37
          refine (SS.out _).mono ?_
          rintro e w1 ⟨rfl, hb_w1⟩
          obtain ⟨hc_w1, hf_w1⟩ := bcell hb_w1; have hz_w1_w_0 : w.heap.size < w1.heap.size := (by have hzz := hb_w1.size; (try simp only [World.size_alloc, World.size_setCell, World.size_drew, World.heap_drewN] at hzz); omega); have hs_w1 := hb_w1.size; (try simp only [World.size_alloc, World.size_setCell, World.size_drew, World.heap_drewN] at hs_w1)
          go_wp2_with fail
          go_at_call 70
          refine (check_ok ca (hA.later (by repeat (first | exact Below.refl _ _ | assumption | (refine below_drewN ?_ _) | (refine Below.drew ?_) | (refine Below.alloc ?_ (by first | omega | (simp; omega) | simp) _) | (refine Below.setCell ?_ (by first | omega | (simp; omega) | simp) _) | (refine below_trans ?_ (by assumption) (by first | omega | (simp; omega) | simp))))) H3.out).mono ?_
          rintro e w2 ⟨rfl, hb_w2⟩
          obtain ⟨hc_w2, hf_w2⟩ := bcell hb_w2; have hz_w2_w_0 : w.heap.size < w2.heap.size := (by have hzz := hb_w2.size; (try simp only [World.size_alloc, World.size_setCell, World.size_drew, World.heap_drewN] at hzz); omega); have hs_w2 := hb_w2.size; (try simp only [World.size_alloc, World.size_setCell, World.size_drew, World.heap_drewN] at hs_w2)
          go_wp2_with fail
          go_at_call 70
          refine (check_bad cm (hM.later (by repeat (first | exact Below.refl _ _ | assumption | (refine below_drewN ?_ _) | (refine Below.drew ?_) | (refine Below.alloc ?_ (by first | omega | (simp; omega) | simp) _) | (refine Below.setCell ?_ (by first | omega | (simp; omega) | simp) _) | (refine below_trans ?_ (by assumption) (by first | omega | (simp; omega) | simp))))) H4.out).mono ?_
          rintro e w3 ⟨rfl, hb_w3⟩
          obtain ⟨hc_w3, hf_w3⟩ := bcell hb_w3; have hz_w3_w_0 : w.heap.size < w3.heap.size := (by have hzz := hb_w3.size; (try simp only [World.size_alloc, World.size_setCell, World.size_drew, World.heap_drewN] at hzz); omega); have hs_w3 := hb_w3.size; (try simp only [World.size_alloc, World.size_setCell, World.size_drew, World.heap_drewN] at hs_w3)
          go_wp2
          go_ret
          exact ⟨rfl, (by repeat (first | exact Below.refl _ _ | assumption | (refine below_drewN ?_ _) | (refine Below.drew ?_) | (refine Below.alloc ?_ (by first | omega | (simp; omega) | simp) _) | (refine Below.setCell ?_ (by first | omega | (simp; omega) | simp) _) | (refine below_trans ?_ (by assumption) (by first | omega | (simp; omega) | simp))))⟩
      · obtain rfl : b = false := by
          cases b
          · rfl
          · exact absurd (hb.1 rfl).2.2.1 h3
        have H3 := Lib.hid h3
        clear hb h3
        go_enter Try.func66, Try.ntmps66
        go_wp2_with fail
        go_at_call 37
        refine (SS.out _).mono ?_
        rintro e w1 ⟨rfl, hb_w1⟩
        obtain ⟨hc_w1, hf_w1⟩ := bcell hb_w1; have hz_w1_w_0 : w.heap.size < w1.heap.size := (by have hzz := hb_w1.size; (try simp only [World.size_alloc, World.size_setCell, World.size_drew, World.heap_drewN] at hzz); omega); have hs_w1 := hb_w1.size; (try simp only [World.size_alloc, World.size_setCell, World.size_drew, World.heap_drewN] at hs_w1)
        go_wp2_with fail
        go_at_call 70
        refine (check_bad ca (hA.later (by repeat (first | exact Below.refl _ _ | assumption | (refine below_drewN ?_ _) | (refine Below.drew ?_) | (refine Below.alloc ?_ (by first | omega | (simp; omega) | simp) _) | (refine Below.setCell ?_ (by first | omega | (simp; omega) | simp) _) | (refine below_trans ?_ (by assumption) (by first | omega | (simp; omega) | simp))))) H3.out).mono ?_
        rintro e w2 ⟨rfl, hb_w2⟩
        obtain ⟨hc_w2, hf_w2⟩ := bcell hb_w2; have hz_w2_w_0 : w.heap.size < w2.heap.size := (by have hzz := hb_w2.size; (try simp only [World.size_alloc, World.size_setCell, World.size_drew, World.heap_drewN] at hzz); omega); have hs_w2 := hb_w2.size; (try simp only [World.size_alloc, World.size_setCell, World.size_drew, World.heap_drewN] at hs_w2)
        go_wp2
        go_ret
        exact ⟨rfl, (by repeat (first | exact Below.refl _ _ | assumption | (refine below_drewN ?_ _) | (refine Below.drew ?_) | (refine Below.alloc ?_ (by first | omega | (simp; omega) | simp) _) | (refine Below.setCell ?_ (by first | omega | (simp; omega) | simp) _) | (refine below_trans ?_ (by assumption) (by first | omega | (simp; omega) | simp))))⟩
    · obtain rfl : b = false := by
        cases b
        · rfl
        · exact absurd (hb.1 rfl).2.1 h2
      have d2 : (mn != an) = true := by simpa using h2
      clear hb h2
      go_enter Try.func66, Try.ntmps66
      go_wp2_with fail
      go_at_call 37
      refine (SS.out _).mono ?_
      rintro e w1 ⟨rfl, hb_w1⟩
      obtain ⟨hc_w1, hf_w1⟩ := bcell hb_w1; have hz_w1_w_0 : w.heap.size < w1.heap.size := (by have hzz := hb_w1.size; (try simp only [World.size_alloc, World.size_setCell, World.size_drew, World.heap_drewN] at hzz); omega); have hs_w1 := hb_w1.size; (try simp only [World.size_alloc, World.size_setCell, World.size_drew, World.heap_drewN] at hs_w1)
      go_wp2
      go_ret
      exact ⟨rfl, (by repeat (first | exact Below.refl _ _ | assumption | (refine below_drewN ?_ _) | (refine Below.drew ?_) | (refine Below.alloc ?_ (by first | omega | (simp; omega) | simp) _) | (refine Below.setCell ?_ (by first | omega | (simp; omega) | simp) _) | (refine below_trans ?_ (by assumption) (by first | omega | (simp; omega) | simp))))⟩
  · obtain rfl : b = false := by
      cases b
      · rfl
      · exact absurd (hb.1 rfl).1 h1
    have d1 : (an != n) = true := by simpa using h1
    clear hb h1
    go_enter Try.func66, Try.ntmps66
    go_wp2_with fail
    go_at_call 37
    refine (SS.out _).mono ?_
    rintro e w1 ⟨rfl, hb_w1⟩
    obtain ⟨hc_w1, hf_w1⟩ := bcell hb_w1; have hz_w1_w_0 : w.heap.size < w1.heap.size := (by have hzz := hb_w1.size; (try simp only [World.size_alloc, World.size_setCell, World.size_drew, World.heap_drewN] at hzz); omega); have hs_w1 := hb_w1.size; (try simp only [World.size_alloc, World.size_setCell, World.size_drew, World.heap_drewN] at hs_w1)
    go_wp2
    go_ret
    exact ⟨rfl, (by repeat (first | exact Below.refl _ _ | assumption | (refine below_drewN ?_ _) | (refine Below.drew ?_) | (refine Below.alloc ?_ (by first | omega | (simp; omega) | simp) _) | (refine Below.setCell ?_ (by first | omega | (simp; omega) | simp) _) | (refine below_trans ?_ (by assumption) (by first | omega | (simp; omega) | simp))))⟩
set_option maxHeartbeats 1000000 in
theorem svalid_any (hA : Row w w.heap.size A d.aw) (hM : Row w w.heap.size M d.mw) (b : Bool) (hb : b = true ↔ Ok1 d) :
    Calls Try.prog 45 #[spv d A ca M cm] w fun e w' => e = .returned (.bool b) ∧ Below w.heap.size w w' := by
  rw [ok1_iff] at hb
  have Z := fun (w : World) b hb => ssized_any (w := w) d A ca M cm b hb
  have P := fun (w : World) hp b hb => splaced_any (w := w) d A ca M cm hp b hb
  have R := fun (w : World) hA hM h b hb => srecorded_any (w := w) (d := d) (A := A) (M := M) (p := d.p) ca cm h hA hM b hb
  by_cases h1 : Sized d.p d.z
  · have hs := h1.slots
    have hp : 1 ≤ d.p ∧ d.p ≤ 4 := by omega
    by_cases h2 : Placed d.f d.p
    · have hb2 : b = true ↔ Rec d := by rw [hb]; exact ⟨fun h => h.2.2, fun h => ⟨h1, h2, h⟩⟩
      have Z1 := Lib.hid fun w => Z w true (decide_eq_true h1)
      have P1 := Lib.hid fun w => P w hp true (decide_eq_true h2)
      have R1 := Lib.hid fun w hA hM => R w hA hM h1 b hb2
      clear Z P R hb hb2 h1 h2 hs hp
      obtain ⟨f, p', z, an, aw, mn, mw, s⟩ := d
      simp only at hA hM Z1 P1 R1
      unfold spv at Z1 P1 R1 ⊢
      simp only at Z1 P1 R1 ⊢
      go_enter Try.func45, Try.ntmps45
      go_wp2_with fail
      go_at_call 34
      refine (Z1.out _).mono ?_
      rintro e w1 ⟨rfl, hb_w1⟩
      obtain ⟨hc_w1, hf_w1⟩ := bcell hb_w1; have hz_w1_w_0 : w.heap.size < w1.heap.size := (by have hzz := hb_w1.size; (try simp only [World.size_alloc, World.size_setCell, World.size_drew, World.heap_drewN] at hzz); omega); have hs_w1 := hb_w1.size; (try simp only [World.size_alloc, World.size_setCell, World.size_drew, World.heap_drewN] at hs_w1)
      go_wp2_with fail
      go_at_call 35
      refine (P1.out _).mono ?_
      rintro e w2 ⟨rfl, hb_w2⟩
      obtain ⟨hc_w2, hf_w2⟩ := bcell hb_w2; have hz_w2_w_0 : w.heap.size < w2.heap.size := (by have hzz := hb_w2.size; (try simp only [World.size_alloc, World.size_setCell, World.size_drew, World.heap_drewN] at hzz); omega); have hs_w2 := hb_w2.size; (try simp only [World.size_alloc, World.size_setCell, World.size_drew, World.heap_drewN] at hs_w2)
      go_wp2_with fail
      go_at_call 66
      refine (R1.out _ (hA.later (by repeat (first | exact Below.refl _ _ | assumption | (refine below_drewN ?_ _) | (refine Below.drew ?_) | (refine Below.alloc ?_ (by first | omega | (simp; omega) | simp) _) | (refine Below.setCell ?_ (by first | omega | (simp; omega) | simp) _) | (refine below_trans ?_ (by assumption) (by first | omega | (simp; omega) | simp))))) (hM.later (by repeat (first | exact Below.refl _ _ | assumption | (refine below_drewN ?_ _) | (refine Below.drew ?_) | (refine Below.alloc ?_ (by first | omega | (simp; omega) | simp) _) | (refine Below.setCell ?_ (by first | omega | (simp; omega) | simp) _) | (refine below_trans ?_ (by assumption) (by first | omega | (simp; omega) | simp)))))).mono ?_
      rintro e w3 ⟨rfl, hb_w3⟩
      obtain ⟨hc_w3, hf_w3⟩ := bcell hb_w3; have hz_w3_w_0 : w.heap.size < w3.heap.size := (by have hzz := hb_w3.size; (try simp only [World.size_alloc, World.size_setCell, World.size_drew, World.heap_drewN] at hzz); omega); have hs_w3 := hb_w3.size; (try simp only [World.size_alloc, World.size_setCell, World.size_drew, World.heap_drewN] at hs_w3)
      go_wp2
      go_ret
      exact ⟨rfl, (by repeat (first | exact Below.refl _ _ | assumption | (refine below_drewN ?_ _) | (refine Below.drew ?_) | (refine Below.alloc ?_ (by first | omega | (simp; omega) | simp) _) | (refine Below.setCell ?_ (by first | omega | (simp; omega) | simp) _) | (refine below_trans ?_ (by assumption) (by first | omega | (simp; omega) | simp))))⟩
    · obtain rfl : b = false := by
        cases b
        · rfl
        · exact absurd (hb.1 rfl).2.1 h2
      have Z1 := Lib.hid fun w => Z w true (decide_eq_true h1)
      have P1 := Lib.hid fun w => P w hp false (decide_eq_false h2)
      clear Z P R hb h1 h2 hs hp
      obtain ⟨f, p', z, an, aw, mn, mw, s⟩ := d
      unfold spv at Z1 P1 ⊢
      simp only at Z1 P1 ⊢
      go_enter Try.func45, Try.ntmps45
      go_wp2_with fail
      go_at_call 34
      refine (Z1.out _).mono ?_
      rintro e w1 ⟨rfl, hb_w1⟩
      obtain ⟨hc_w1, hf_w1⟩ := bcell hb_w1; have hz_w1_w_0 : w.heap.size < w1.heap.size := (by have hzz := hb_w1.size; (try simp only [World.size_alloc, World.size_setCell, World.size_drew, World.heap_drewN] at hzz); omega); have hs_w1 := hb_w1.size; (try simp only [World.size_alloc, World.size_setCell, World.size_drew, World.heap_drewN] at hs_w1)
      go_wp2_with fail
      go_at_call 35
      refine (P1.out _).mono ?_
      rintro e w2 ⟨rfl, hb_w2⟩
      obtain ⟨hc_w2, hf_w2⟩ := bcell hb_w2; have hz_w2_w_0 : w.heap.size < w2.heap.size := (by have hzz := hb_w2.size; (try simp only [World.size_alloc, World.size_setCell, World.size_drew, World.heap_drewN] at hzz); omega); have hs_w2 := hb_w2.size; (try simp only [World.size_alloc, World.size_setCell, World.size_drew, World.heap_drewN] at hs_w2)
      go_wp2
      go_ret
      exact ⟨rfl, (by repeat (first | exact Below.refl _ _ | assumption | (refine below_drewN ?_ _) | (refine Below.drew ?_) | (refine Below.alloc ?_ (by first | omega | (simp; omega) | simp) _) | (refine Below.setCell ?_ (by first | omega | (simp; omega) | simp) _) | (refine below_trans ?_ (by assumption) (by first | omega | (simp; omega) | simp))))⟩
  · obtain rfl : b = false := by
      cases b
      · rfl
      · exact absurd (hb.1 rfl).1 h1
    have Z1 := Lib.hid fun w => Z w false (decide_eq_false h1)
    clear Z P R hb h1
    obtain ⟨f, p', z, an, aw, mn, mw, s⟩ := d
    unfold spv at Z1 ⊢
    simp only at Z1 ⊢
    go_enter Try.func45, Try.ntmps45
    go_wp2_with fail
    go_at_call 34
    refine (Z1.out _).mono ?_
    rintro e w1 ⟨rfl, hb_w1⟩
    obtain ⟨hc_w1, hf_w1⟩ := bcell hb_w1; have hz_w1_w_0 : w.heap.size < w1.heap.size := (by have hzz := hb_w1.size; (try simp only [World.size_alloc, World.size_setCell, World.size_drew, World.heap_drewN] at hzz); omega); have hs_w1 := hb_w1.size; (try simp only [World.size_alloc, World.size_setCell, World.size_drew, World.heap_drewN] at hs_w1)
    go_wp2
    go_ret
    exact ⟨rfl, (by repeat (first | exact Below.refl _ _ | assumption | (refine below_drewN ?_ _) | (refine Below.drew ?_) | (refine Below.alloc ?_ (by first | omega | (simp; omega) | simp) _) | (refine Below.setCell ?_ (by first | omega | (simp; omega) | simp) _) | (refine below_trans ?_ (by assumption) (by first | omega | (simp; omega) | simp))))⟩
end
end Go.Proofs.Ythphefoohkofbaa

/- Spans that lie in memory one behind the other; whether a list of them is right. -/
namespace Go.Proofs.Ythphefoohkofbaa
open Go.RowKit
set_option linter.unusedVariables false
set_option linter.unusedSimpArgs false

def sd0 : Sd := ⟨0, 0, 0, 0, [], 0, [], false⟩
def nth (l : List Sd) (i : Nat) : Sd := l.getD i sd0
/-- the slice at A holds the spans l, ahead of block B -/
structure SRow (w : World) (B : Nat) (A : Option Addr) (l : List Sd) : Prop where
  at_ : 0 < l.length → ∃ b off, A = some ⟨b, off, none⟩ ∧ b < B ∧ ∀ i, i < l.length → ∃ Aa ca Am cm, Sp8 w b (off + i * 8) (nth l i) Aa ca Am cm ∧ Row w B Aa (nth l i).aw ∧ Row w B Am (nth l i).mw
theorem SRow.keep {w w' : World} {B : Nat} {A : Option Addr} {l : List Sd} (h : SRow w B A l) (hk : ∀ b o, b < B → w'.cell? ⟨b, o, none⟩ = w.cell? ⟨b, o, none⟩) : SRow w' B A l :=
  ⟨fun hl => by
    obtain ⟨b, off, e, hb, hc⟩ := h.at_ hl
    refine ⟨b, off, e, hb, fun i hi => ?_⟩
    obtain ⟨Aa, ca, Am, cm, h1, h2, h3⟩ := hc i hi
    exact ⟨Aa, ca, Am, cm, ⟨(hk _ _ hb).trans h1.c0, (hk _ _ hb).trans h1.c1, (hk _ _ hb).trans h1.c2, (hk _ _ hb).trans h1.c3, (hk _ _ hb).trans h1.c4, (hk _ _ hb).trans h1.c5, (hk _ _ hb).trans h1.c6, (hk _ _ hb).trans h1.c7⟩, h2.keep hk, h3.keep hk⟩⟩
theorem SRow.more {w : World} {B B' : Nat} {A : Option Addr} {l : List Sd} (h : SRow w B A l) (hB : B ≤ B') : SRow w B' A l :=
  ⟨fun hl => by
    obtain ⟨b, off, e, hb, hc⟩ := h.at_ hl
    refine ⟨b, off, e, by omega, fun i hi => ?_⟩
    obtain ⟨Aa, ca, Am, cm, h1, h2, h3⟩ := hc i hi
    exact ⟨Aa, ca, Am, cm, h1, h2.more hB, h3.more hB⟩⟩
theorem SRow.below {w w' : World} {B : Nat} {A : Option Addr} {l : List Sd} (h : SRow w B A l) (hb : Below B w w') : SRow w' B A l := h.keep fun b o hlt => hb.cell (p := ⟨b, o, none⟩) hlt
theorem SRow.later {w w' : World} {A : Option Addr} {l : List Sd} (h : SRow w w.heap.size A l) (hb : Below w.heap.size w w') : SRow w' w'.heap.size A l := (h.below hb).more hb.size
theorem SRow.nil (w : World) (B : Nat) (A : Option Addr) : SRow w B A [] := ⟨fun h => by simp at h⟩
/-- the first k of some spans are right; where the next one may begin -/
def OkP (l : List Sd) (k : Nat) : Prop := (∀ i, i < k → Ok1 (nth l i)) ∧ ∀ i, i + 1 < k → (nth l i).f + (nth l i).p ≤ (nth l (i + 1)).f
def endAt (l : List Sd) : Nat → Int
  | 0 => 0
  | k + 1 => (nth l k).f + (nth l k).p
def OkL (l : List Sd) : Prop := l.length ≤ 256 ∧ OkP l l.length
theorem OkP.end_ {l : List Sd} {k : Nat} (h : OkP l k) : 0 ≤ endAt l k ∧ endAt l k ≤ 1024 := by
  cases k with
  | zero => exact ⟨Int.le_refl _, by show (0 : Int) ≤ _; omega⟩
  | succ k =>
    have h1 := (h.1 k (by omega))
    have := h1.placed
    have := h1.sized.slots
    unfold Placed at this
    show 0 ≤ (nth l k).f + (nth l k).p ∧ _
    have h2 := h1.placed
    unfold Placed at h2
    constructor
    · omega
    · show (nth l k).f + (nth l k).p ≤ 1024
      omega
theorem OkP.next {l : List Sd} {k : Nat} (h : OkP l k) (h1 : Ok1 (nth l k)) (h2 : endAt l k ≤ (nth l k).f) : OkP l (k + 1) := by
  refine ⟨fun i hi => ?_, fun i hi => ?_⟩
  · by_cases e : i = k
    · rw [e]; exact h1
    · exact h.1 i (by omega)
  · by_cases e : i + 1 = k
    · subst e
      exact h2
    · exact h.2 i (by omega)
theorem OkP.at_ {l : List Sd} {k n : Nat} (h : OkP l n) (hk : k < n) : Ok1 (nth l k) ∧ endAt l k ≤ (nth l k).f := by
  refine ⟨h.1 k hk, ?_⟩
  cases k with
  | zero => exact (h.1 0 hk).placed.1
  | succ k => exact h.2 k hk
section
variable {w : World} {A : Option Addr} {l : List Sd} (cap : Nat)
set_option maxHeartbeats 1000000 in
theorem scheck_any (hr : SRow w w.heap.size A l) (hl : l.length ≤ 17592186044416) (y : Int) (hy : (OkL l ∧ y = 0) ∨ (¬ OkL l ∧ y = 2)) :
    Calls Try.prog 19 #[.slice A l.length cap] w fun e w' => e = .returned (.int .i64 y) ∧ Below w.heap.size w w' := by
  by_cases hlen : 256 < l.length
  · obtain rfl : y = 2 := by
      rcases hy with ⟨h, _⟩ | ⟨_, h⟩
      · exact absurd h.1 (by omega)
      · exact h
    have d1 : decide (256 < (l.length : Int)) = true := decide_eq_true (by omega)
    clear hy
    go_enter Try.func19, Try.ntmps19
    go_wp2
    go_ret
    exact ⟨rfl, (by repeat (first | exact Below.refl _ _ | assumption | (refine below_drewN ?_ _) | (refine Below.drew ?_) | (refine Below.alloc ?_ (by first | omega | (simp; omega) | simp) _) | (refine Below.setCell ?_ (by first | omega | (simp; omega) | simp) _) | (refine below_trans ?_ (by assumption) (by first | omega | (simp; omega) | simp))))⟩
  · have d1 : decide (256 < (l.length : Int)) = false := decide_eq_false (by omega)
    have hY := Lib.hid hy
    clear hy
    go_enter Try.func19, Try.ntmps19
    go_wp2
    go_loopw [3, 11] (fun c ii wr => ∃ k : Nat, ii = .int .i64 (k : Nat) ∧ k ≤ l.length ∧ c = .int .i64 (endAt l k) ∧ OkP l k ∧ Below w.heap.size w wr) (fun _ ii _ => l.length - (intOf ii).toNat)
    case atStart => exact ⟨0, rfl, Nat.zero_le _, rfl, ⟨fun i hi => by omega, fun i hi => by omega⟩, (by repeat (first | exact Below.refl _ _ | assumption | (refine below_drewN ?_ _) | (refine Below.drew ?_) | (refine Below.alloc ?_ (by first | omega | (simp; omega) | simp) _) | (refine Below.setCell ?_ (by first | omega | (simp; omega) | simp) _) | (refine below_trans ?_ (by assumption) (by first | omega | (simp; omega) | simp))))⟩
    case round =>
      obtain ⟨k, rfl, hk, rfl, hA, hb_wr⟩ := hrel
      have hsr := hb_wr.size
      by_cases hlt : k < l.length
      · obtain ⟨b, off, rfl, hbb, hc⟩ := (hr.later hb_wr).at_ (by omega)
        obtain ⟨Aa, ca, Am, cm, c8, ra, rm⟩ := hc k hlt
        obtain ⟨d, hd⟩ : ∃ d, Hid (nth l k = d) := ⟨_, rfl⟩
        rw [hd.out] at c8 ra rm
        obtain ⟨e, he⟩ : ∃ e, Hid (endAt l k = e) := ⟨_, rfl⟩
        have hen := hA.end_
        rw [he.out] at hen ⊢
        have HA := Lib.hid hA
        obtain ⟨c0, c1, c2, c3, c4, c5, c6, c7⟩ := id c8
        clear hc hA
        by_cases h1 : Ok1 d
        · have H1 := Lib.hid h1
          have hs := h1.sized.slots
          have hp := h1.placed
          unfold Placed at hp
          obtain ⟨p0, p1⟩ := hp
          by_cases h2 : e ≤ d.f
          · have d2 : decide (d.f < e) = false := decide_eq_false (by omega)
            have HN : Hid (OkP l (k + 1)) := Lib.hid (HA.out.next (by rw [hd.out]; exact h1) (by rw [he.out, hd.out]; exact h2))
            have HE : Hid (endAt l (k + 1) = d.f + d.p) := Lib.hid (by show (nth l k).f + (nth l k).p = _; rw [hd.out])
            have V := Lib.hid fun (w : World) hA hM => svalid_any (w := w) (d := d) (A := Aa) (M := Am) ca cm hA hM true ⟨fun _ => H1.out, fun _ => rfl⟩
            have G := Lib.hid fun (w : World) => sbehind_any (w := w) d Aa ca Am cm (by omega) (by omega)
            clear h1 hs
            obtain ⟨f, p, z, an, aw, mn, mw, s⟩ := d
            simp only at *
            unfold spv at V G
            simp only at V G
            go_wp2_with (first
              | (go_at_call 45; refine (V.out _ (ra.later (by repeat (first | exact Below.refl _ _ | assumption | (refine below_drewN ?_ _) | (refine Below.drew ?_) | (refine Below.alloc ?_ (by first | omega | (simp; omega) | simp) _) | (refine Below.setCell ?_ (by first | omega | (simp; omega) | simp) _) | (refine below_trans ?_ (by assumption) (by first | omega | (simp; omega) | simp))))) (rm.later (by repeat (first | exact Below.refl _ _ | assumption | (refine below_drewN ?_ _) | (refine Below.drew ?_) | (refine Below.alloc ?_ (by first | omega | (simp; omega) | simp) _) | (refine Below.setCell ?_ (by first | omega | (simp; omega) | simp) _) | (refine below_trans ?_ (by assumption) (by first | omega | (simp; omega) | simp)))))).mono ?_; rintro e w1 ⟨rfl, hb_w1⟩; obtain ⟨hc_w1, hf_w1⟩ := bcell hb_w1; have hz_w1_wr_0 : wr.heap.size < w1.heap.size := (by have hzz := hb_w1.size; (try simp only [World.size_alloc, World.size_setCell, World.size_drew, World.heap_drewN] at hzz); omega); have hs_w1 := hb_w1.size; (try simp only [World.size_alloc, World.size_setCell, World.size_drew, World.heap_drewN] at hs_w1))
              | (go_at_call 46; refine (G.out _).mono ?_; rintro e w2 ⟨rfl, hb_w2⟩; obtain ⟨hc_w2, hf_w2⟩ := bcell hb_w2; have hz_w2_wr_0 : wr.heap.size < w2.heap.size := (by have hzz := hb_w2.size; (try simp only [World.size_alloc, World.size_setCell, World.size_drew, World.heap_drewN] at hzz); omega); have hs_w2 := hb_w2.size; (try simp only [World.size_alloc, World.size_setCell, World.size_drew, World.heap_drewN] at hs_w2)))
            go_roundw
            case rel => exact ⟨k + 1, by go_num, by omega, by rw [HE.out], HN.out, (by repeat (first | exact Below.refl _ _ | assumption | (refine below_drewN ?_ _) | (refine Below.drew ?_) | (refine Below.alloc ?_ (by first | omega | (simp; omega) | simp) _) | (refine Below.setCell ?_ (by first | omega | (simp; omega) | simp) _) | (refine below_trans ?_ (by assumption) (by first | omega | (simp; omega) | simp))))⟩
            case measure => simp [intOf]; omega
          · have d2 : decide (d.f < e) = true := decide_eq_true (by omega)
            obtain rfl : y = 2 := by
              rcases hY.out with ⟨h, _⟩ | ⟨_, h⟩
              · have := (h.2.at_ hlt).2
                rw [he.out, hd.out] at this
                exact absurd this h2
              · exact h
            have V := Lib.hid fun (w : World) hA hM => svalid_any (w := w) (d := d) (A := Aa) (M := Am) ca cm hA hM true ⟨fun _ => H1.out, fun _ => rfl⟩
            clear h1 hs h2
            obtain ⟨f, p, z, an, aw, mn, mw, s⟩ := d
            simp only at *
            unfold spv at V
            simp only at V
            go_wp2_with (go_at_call 45; refine (V.out _ (ra.later (by repeat (first | exact Below.refl _ _ | assumption | (refine below_drewN ?_ _) | (refine Below.drew ?_) | (refine Below.alloc ?_ (by first | omega | (simp; omega) | simp) _) | (refine Below.setCell ?_ (by first | omega | (simp; omega) | simp) _) | (refine below_trans ?_ (by assumption) (by first | omega | (simp; omega) | simp))))) (rm.later (by repeat (first | exact Below.refl _ _ | assumption | (refine below_drewN ?_ _) | (refine Below.drew ?_) | (refine Below.alloc ?_ (by first | omega | (simp; omega) | simp) _) | (refine Below.setCell ?_ (by first | omega | (simp; omega) | simp) _) | (refine below_trans ?_ (by assumption) (by first | omega | (simp; omega) | simp)))))).mono ?_; rintro e w1 ⟨rfl, hb_w1⟩; obtain ⟨hc_w1, hf_w1⟩ := bcell hb_w1; have hz_w1_wr_0 : wr.heap.size < w1.heap.size := (by have hzz := hb_w1.size; (try simp only [World.size_alloc, World.size_setCell, World.size_drew, World.heap_drewN] at hzz); omega); have hs_w1 := hb_w1.size; (try simp only [World.size_alloc, World.size_setCell, World.size_drew, World.heap_drewN] at hs_w1))
            go_ret
            exact ⟨rfl, (by repeat (first | exact Below.refl _ _ | assumption | (refine below_drewN ?_ _) | (refine Below.drew ?_) | (refine Below.alloc ?_ (by first | omega | (simp; omega) | simp) _) | (refine Below.setCell ?_ (by first | omega | (simp; omega) | simp) _) | (refine below_trans ?_ (by assumption) (by first | omega | (simp; omega) | simp))))⟩
        · obtain rfl : y = 2 := by
            rcases hY.out with ⟨h, _⟩ | ⟨_, h⟩
            · have := (h.2.at_ hlt).1
              rw [hd.out] at this
              exact absurd this h1
            · exact h
          have V := Lib.hid fun (w : World) hA hM => svalid_any (w := w) (d := d) (A := Aa) (M := Am) ca cm hA hM false ⟨fun h => (by cases h), fun h => absurd h h1⟩
          clear h1
          obtain ⟨f, p, z, an, aw, mn, mw, s⟩ := d
          simp only at *
          unfold spv at V
          simp only at V
          go_wp2_with (go_at_call 45; refine (V.out _ (ra.later (by repeat (first | exact Below.refl _ _ | assumption | (refine below_drewN ?_ _) | (refine Below.drew ?_) | (refine Below.alloc ?_ (by first | omega | (simp; omega) | simp) _) | (refine Below.setCell ?_ (by first | omega | (simp; omega) | simp) _) | (refine below_trans ?_ (by assumption) (by first | omega | (simp; omega) | simp))))) (rm.later (by repeat (first | exact Below.refl _ _ | assumption | (refine below_drewN ?_ _) | (refine Below.drew ?_) | (refine Below.alloc ?_ (by first | omega | (simp; omega) | simp) _) | (refine Below.setCell ?_ (by first | omega | (simp; omega) | simp) _) | (refine below_trans ?_ (by assumption) (by first | omega | (simp; omega) | simp)))))).mono ?_; rintro e w1 ⟨rfl, hb_w1⟩; obtain ⟨hc_w1, hf_w1⟩ := bcell hb_w1; have hz_w1_wr_0 : wr.heap.size < w1.heap.size := (by have hzz := hb_w1.size; (try simp only [World.size_alloc, World.size_setCell, World.size_drew, World.heap_drewN] at hzz); omega); have hs_w1 := hb_w1.size; (try simp only [World.size_alloc, World.size_setCell, World.size_drew, World.heap_drewN] at hs_w1))
          go_ret
          exact ⟨rfl, (by repeat (first | exact Below.refl _ _ | assumption | (refine below_drewN ?_ _) | (refine Below.drew ?_) | (refine Below.alloc ?_ (by first | omega | (simp; omega) | simp) _) | (refine Below.setCell ?_ (by first | omega | (simp; omega) | simp) _) | (refine below_trans ?_ (by assumption) (by first | omega | (simp; omega) | simp))))⟩
      · obtain rfl : k = l.length := by omega
        obtain rfl : y = 0 := by
          rcases hY.out with ⟨_, h⟩ | ⟨h, _⟩
          · exact h
          · exact absurd ⟨by omega, hA⟩ h
        go_wp2
        go_ret
        exact ⟨rfl, (by repeat (first | exact Below.refl _ _ | assumption | (refine below_drewN ?_ _) | (refine Below.drew ?_) | (refine Below.alloc ?_ (by first | omega | (simp; omega) | simp) _) | (refine Below.setCell ?_ (by first | omega | (simp; omega) | simp) _) | (refine below_trans ?_ (by assumption) (by first | omega | (simp; omega) | simp))))⟩
end
end Go.Proofs.Ythphefoohkofbaa

/- Contracts of package span: slots, addresses, a new span. -/
namespace Go.Proofs.Ythphefoohkofbaa
open Go.RowKit
set_option linter.unusedVariables false
set_option linter.unusedSimpArgs false

theorem okl_one (d : Sd) : OkL [d] ↔ Ok1 d := by
  constructor
  · intro h
    exact h.2.1 0 (by simp)
  · intro h
    refine ⟨by simp, fun i hi => ?_, fun i hi => ?_⟩
    · have : i = 0 := by simp at hi; omega
      subst this
      exact h
    · simp at hi
theorem srow_one (w : World) (d : Sd) (A : Option Addr) (ca : Nat) (M : Option Addr) (cm : Nat) (t : TypeId) (hA : Row w w.heap.size A d.aw) (hM : Row w w.heap.size M d.mw) :
    SRow (w.alloc (.cells #[.int .i64 d.f, .int .i64 d.p, .int .i64 d.z, .int .i64 d.an, .slice A d.aw.length ca, .int .i64 d.mn, .slice M d.mw.length cm, .bool d.s] t)) (w.heap.size + 1) (some ⟨w.heap.size, 0, none⟩) [d] :=
  ⟨fun _ => ⟨w.heap.size, 0, rfl, by omega, fun i hi => by
    have : i = 0 := by simp at hi; omega
    subst this
    have hb : Below w.heap.size w (w.alloc (.cells #[.int .i64 d.f, .int .i64 d.p, .int .i64 d.z, .int .i64 d.an, .slice A d.aw.length ca, .int .i64 d.mn, .slice M d.mw.length cm, .bool d.s] t)) := (Below.refl _ _).alloc (Nat.le_refl _) _
    exact ⟨A, ca, M, cm, Sp8.new w d A ca M cm t, (hA.below hb).more (by omega), (hM.below hb).more (by omega)⟩⟩⟩
section
variable {w : World} {d : Sd} {A M : Option Addr} (ca cm : Nat)
theorem scheck1_any {g : Nat} (hg : w.heap.size = g) (hA : Row w w.heap.size A d.aw) (hM : Row w w.heap.size M d.mw) (y : Int) (hy : (Ok1 d ∧ y = 0) ∨ (¬ Ok1 d ∧ y = 2)) (t : TypeId) :
    Calls Try.prog 19 #[.slice (some ⟨g, 0, none⟩) 1 1] (w.alloc (.cells #[.int .i64 d.f, .int .i64 d.p, .int .i64 d.z, .int .i64 d.an, .slice A d.aw.length ca, .int .i64 d.mn, .slice M d.mw.length cm, .bool d.s] t)) fun e w' => e = .returned (.int .i64 y) ∧ Below (g + 1) (w.alloc (.cells #[.int .i64 d.f, .int .i64 d.p, .int .i64 d.z, .int .i64 d.an, .slice A d.aw.length ca, .int .i64 d.mn, .slice M d.mw.length cm, .bool d.s] t)) w' := by
  subst hg
  have h := scheck_any (w := w.alloc (.cells #[.int .i64 d.f, .int .i64 d.p, .int .i64 d.z, .int .i64 d.an, .slice A d.aw.length ca, .int .i64 d.mn, .slice M d.mw.length cm, .bool d.s] t)) 1 (by have := srow_one w d A ca M cm t hA hM; rwa [show w.heap.size + 1 = _ from (World.size_alloc w _).symm] at this) (by simp) y (by rwa [okl_one])
  rw [World.size_alloc] at h
  exact h
set_option maxHeartbeats 1000000 in
theorem sSlots_any (hA : Row w w.heap.size A d.aw) (hM : Row w w.heap.size M d.mw) (r y : Int) (hy : (Ok1 d ∧ r = slotsOf d.z ∧ y = 0) ∨ (¬ Ok1 d ∧ r = 0 ∧ y = 2)) :
    Calls Try.prog 13 #[spv d A ca M cm] w fun e w' => e = .returned (.tuple #[.int .i64 r, .int .i64 y]) ∧ Below w.heap.size w w' := by
  have V := fun (w : World) (g : Nat) (hg : w.heap.size = g) hA hM => scheck1_any (w := w) (d := d) (A := A) (M := M) ca cm hg hA hM y (by rcases hy with ⟨h, _, h2⟩ | ⟨h, _, h2⟩; exact .inl ⟨h, h2⟩; exact .inr ⟨h, h2⟩) 26
  rcases hy with ⟨h, rfl, rfl⟩ | ⟨h, rfl, rfl⟩
  · have V := Lib.hid V
    have S := Lib.hid fun (w : World) => sslots_any (w := w) d A ca M cm h.sized
    clear h
    obtain ⟨f, p, z, an, aw, mn, mw, s⟩ := d
    simp only at *
    generalize slotsOf z = n at S ⊢
    unfold spv at S ⊢
    simp only at S ⊢
    go_enter Try.func13, Try.ntmps13
    go_wp2_with (first
      | (go_at_call 19; refine (V.out _ _ (by simp) (hA.later (by repeat (first | exact Below.refl _ _ | assumption | (refine below_drewN ?_ _) | (refine Below.drew ?_) | (refine Below.alloc ?_ (by first | omega | (simp; omega) | simp) _) | (refine Below.setCell ?_ (by first | omega | (simp; omega) | simp) _) | (refine below_trans ?_ (by assumption) (by first | omega | (simp; omega) | simp))))) (hM.later (by repeat (first | exact Below.refl _ _ | assumption | (refine below_drewN ?_ _) | (refine Below.drew ?_) | (refine Below.alloc ?_ (by first | omega | (simp; omega) | simp) _) | (refine Below.setCell ?_ (by first | omega | (simp; omega) | simp) _) | (refine below_trans ?_ (by assumption) (by first | omega | (simp; omega) | simp)))))).mono ?_; rintro e w1 ⟨rfl, hb_w1⟩; obtain ⟨hc_w1, hf_w1⟩ := bcell hb_w1; have hz_w1_w_0 : w.heap.size < w1.heap.size := (by have hzz := hb_w1.size; (try simp only [World.size_alloc, World.size_setCell, World.size_drew, World.heap_drewN] at hzz); omega); have hs_w1 := hb_w1.size; (try simp only [World.size_alloc, World.size_setCell, World.size_drew, World.heap_drewN] at hs_w1))
      | (go_at_call 37; refine (S.out _).mono ?_; rintro e w2 ⟨rfl, hb_w2⟩; obtain ⟨hc_w2, hf_w2⟩ := bcell hb_w2; have hz_w2_w_0 : w.heap.size < w2.heap.size := (by have hzz := hb_w2.size; (try simp only [World.size_alloc, World.size_setCell, World.size_drew, World.heap_drewN] at hzz); omega); have hs_w2 := hb_w2.size; (try simp only [World.size_alloc, World.size_setCell, World.size_drew, World.heap_drewN] at hs_w2)))
    go_ret2
    exact ⟨rfl, (by repeat (first | exact Below.refl _ _ | assumption | (refine below_drewN ?_ _) | (refine Below.drew ?_) | (refine Below.alloc ?_ (by first | omega | (simp; omega) | simp) _) | (refine Below.setCell ?_ (by first | omega | (simp; omega) | simp) _) | (refine below_trans ?_ (by assumption) (by first | omega | (simp; omega) | simp))))⟩
  · have V := Lib.hid V
    clear h
    obtain ⟨f, p, z, an, aw, mn, mw, s⟩ := d
    simp only at *
    unfold spv
    simp only
    go_enter Try.func13, Try.ntmps13
    go_wp2_with (go_at_call 19; refine (V.out _ _ (by simp) (hA.later (by repeat (first | exact Below.refl _ _ | assumption | (refine below_drewN ?_ _) | (refine Below.drew ?_) | (refine Below.alloc ?_ (by first | omega | (simp; omega) | simp) _) | (refine Below.setCell ?_ (by first | omega | (simp; omega) | simp) _) | (refine below_trans ?_ (by assumption) (by first | omega | (simp; omega) | simp))))) (hM.later (by repeat (first | exact Below.refl _ _ | assumption | (refine below_drewN ?_ _) | (refine Below.drew ?_) | (refine Below.alloc ?_ (by first | omega | (simp; omega) | simp) _) | (refine Below.setCell ?_ (by first | omega | (simp; omega) | simp) _) | (refine below_trans ?_ (by assumption) (by first | omega | (simp; omega) | simp)))))).mono ?_; rintro e w1 ⟨rfl, hb_w1⟩; obtain ⟨hc_w1, hf_w1⟩ := bcell hb_w1; have hz_w1_w_0 : w.heap.size < w1.heap.size := (by have hzz := hb_w1.size; (try simp only [World.size_alloc, World.size_setCell, World.size_drew, World.heap_drewN] at hzz); omega); have hs_w1 := hb_w1.size; (try simp only [World.size_alloc, World.size_setCell, World.size_drew, World.heap_drewN] at hs_w1))
    go_ret2
    exact ⟨rfl, (by repeat (first | exact Below.refl _ _ | assumption | (refine below_drewN ?_ _) | (refine Below.drew ?_) | (refine Below.alloc ?_ (by first | omega | (simp; omega) | simp) _) | (refine Below.setCell ?_ (by first | omega | (simp; omega) | simp) _) | (refine below_trans ?_ (by assumption) (by first | omega | (simp; omega) | simp))))⟩
end
end Go.Proofs.Ythphefoohkofbaa

/- Contracts of package span: addresses, a new span. -/
namespace Go.Proofs.Ythphefoohkofbaa
open Go.RowKit
set_option linter.unusedVariables false
set_option linter.unusedSimpArgs false

theorem Sized.room {p z : Int} (h : Sized p z) (k : Int) (h0 : 0 ≤ k) (h1 : k < slotsOf z) : 0 ≤ k * z ∧ k * z ≤ 16 := by
  rcases h with ⟨rfl | rfl | rfl | rfl, rfl⟩ | ⟨rfl, _, _⟩
  all_goals
    simp [slotsOf] at h1
    omega
def AddrE (d : Sd) (k : Int) (r y : Int) : Prop := (Ok1 d ∧ 0 ≤ k ∧ k < slotsOf d.z ∧ r = d.f * 16 + k * d.z ∧ y = 0) ∨ (Ok1 d ∧ ¬ (0 ≤ k ∧ k < slotsOf d.z) ∧ r = 0 ∧ y = 1) ∨ (¬ Ok1 d ∧ r = 0 ∧ y = 2)
section
variable {w : World} {d : Sd} {A M : Option Addr} (ca cm : Nat)
set_option maxHeartbeats 1000000 in
theorem sAddr_any (hA : Row w w.heap.size A d.aw) (hM : Row w w.heap.size M d.mw) (k r y : Int) (hy : AddrE d k r y) :
    Calls Try.prog 15 #[spv d A ca M cm, .int .i64 k] w fun e w' => e = .returned (.tuple #[.int .u64 r, .int .i64 y]) ∧ Below w.heap.size w w' := by
  by_cases h : Ok1 d
  · have V := Lib.hid fun (w : World) (g : Nat) (hg : w.heap.size = g) hA hM => scheck1_any (w := w) (d := d) (A := A) (M := M) ca cm hg hA hM 0 (.inl ⟨h, rfl⟩) 26
    have S := Lib.hid fun (w : World) => sslots_any (w := w) d A ca M cm h.sized
    have hs := h.sized.slots
    have hp := h.placed
    unfold Placed at hp
    by_cases hk : 0 ≤ k ∧ k < slotsOf d.z
    · obtain ⟨m0, m1⟩ := h.sized.room k hk.1 hk.2
      obtain ⟨rfl, rfl⟩ : r = d.f * 16 + k * d.z ∧ y = 0 := by
        rcases hy with ⟨_, _, _, a, b⟩ | ⟨_, a, _⟩ | ⟨a, _⟩
        · exact ⟨a, b⟩
        · exact absurd hk a
        · exact absurd h a
      have D := Lib.hid fun (w : World) => saddress_any (w := w) d A ca M cm k hp.1 (by omega) (by omega) hk.1 (by omega) (k * d.z) rfl m0 (by omega)
      obtain ⟨k0, k1⟩ := hk
      clear h hy
      obtain ⟨f, p, z, an, aw, mn, mw, s⟩ := d
      simp only at *
      generalize k * z = m at *
      generalize slotsOf z = n at *
      have d0 : decide (k < 0) = false := decide_eq_false (by omega)
      have d1 : decide (n ≤ k) = false := decide_eq_false (by omega)
      unfold spv at S D ⊢
      simp only at S D ⊢
      go_enter Try.func15, Try.ntmps15
      go_wp2_with (first
        | (go_at_call 19; refine (V.out _ _ (by simp) (hA.later (by repeat (first | exact Below.refl _ _ | assumption | (refine below_drewN ?_ _) | (refine Below.drew ?_) | (refine Below.alloc ?_ (by first | omega | (simp; omega) | simp) _) | (refine Below.setCell ?_ (by first | omega | (simp; omega) | simp) _) | (refine below_trans ?_ (by assumption) (by first | omega | (simp; omega) | simp))))) (hM.later (by repeat (first | exact Below.refl _ _ | assumption | (refine below_drewN ?_ _) | (refine Below.drew ?_) | (refine Below.alloc ?_ (by first | omega | (simp; omega) | simp) _) | (refine Below.setCell ?_ (by first | omega | (simp; omega) | simp) _) | (refine below_trans ?_ (by assumption) (by first | omega | (simp; omega) | simp)))))).mono ?_; rintro e w1 ⟨rfl, hb_w1⟩; obtain ⟨hc_w1, hf_w1⟩ := bcell hb_w1; have hz_w1_w_0 : w.heap.size < w1.heap.size := (by have hzz := hb_w1.size; (try simp only [World.size_alloc, World.size_setCell, World.size_drew, World.heap_drewN] at hzz); omega); have hs_w1 := hb_w1.size; (try simp only [World.size_alloc, World.size_setCell, World.size_drew, World.heap_drewN] at hs_w1))
        | (go_at_call 37; refine (S.out _).mono ?_; rintro e w2 ⟨rfl, hb_w2⟩; obtain ⟨hc_w2, hf_w2⟩ := bcell hb_w2; have hz_w2_w_0 : w.heap.size < w2.heap.size := (by have hzz := hb_w2.size; (try simp only [World.size_alloc, World.size_setCell, World.size_drew, World.heap_drewN] at hzz); omega); have hs_w2 := hb_w2.size; (try simp only [World.size_alloc, World.size_setCell, World.size_drew, World.heap_drewN] at hs_w2))
        | (go_at_call 41; refine (D.out _).mono ?_; rintro e w3 ⟨rfl, hb_w3⟩; obtain ⟨hc_w3, hf_w3⟩ := bcell hb_w3; have hz_w3_w_0 : w.heap.size < w3.heap.size := (by have hzz := hb_w3.size; (try simp only [World.size_alloc, World.size_setCell, World.size_drew, World.heap_drewN] at hzz); omega); have hs_w3 := hb_w3.size; (try simp only [World.size_alloc, World.size_setCell, World.size_drew, World.heap_drewN] at hs_w3)))
      go_ret2
      exact ⟨rfl, (by repeat (first | exact Below.refl _ _ | assumption | (refine below_drewN ?_ _) | (refine Below.drew ?_) | (refine Below.alloc ?_ (by first | omega | (simp; omega) | simp) _) | (refine Below.setCell ?_ (by first | omega | (simp; omega) | simp) _) | (refine below_trans ?_ (by assumption) (by first | omega | (simp; omega) | simp))))⟩
    · obtain ⟨rfl, rfl⟩ : r = 0 ∧ y = 1 := by
        rcases hy with ⟨_, a, b, _⟩ | ⟨_, _, a, b⟩ | ⟨a, _⟩
        · exact absurd ⟨a, b⟩ hk
        · exact ⟨a, b⟩
        · exact absurd h a
      clear h hy
      obtain ⟨f, p, z, an, aw, mn, mw, s⟩ := d
      simp only at *
      generalize slotsOf z = n at *
      unfold spv at S ⊢
      simp only at S ⊢
      by_cases k0 : k < 0
      · have d0 : decide (k < 0) = true := decide_eq_true k0
        clear hk
        go_enter Try.func15, Try.ntmps15
        go_wp2_with (first
          | (go_at_call 19; refine (V.out _ _ (by simp) (hA.later (by repeat (first | exact Below.refl _ _ | assumption | (refine below_drewN ?_ _) | (refine Below.drew ?_) | (refine Below.alloc ?_ (by first | omega | (simp; omega) | simp) _) | (refine Below.setCell ?_ (by first | omega | (simp; omega) | simp) _) | (refine below_trans ?_ (by assumption) (by first | omega | (simp; omega) | simp))))) (hM.later (by repeat (first | exact Below.refl _ _ | assumption | (refine below_drewN ?_ _) | (refine Below.drew ?_) | (refine Below.alloc ?_ (by first | omega | (simp; omega) | simp) _) | (refine Below.setCell ?_ (by first | omega | (simp; omega) | simp) _) | (refine below_trans ?_ (by assumption) (by first | omega | (simp; omega) | simp)))))).mono ?_; rintro e w1 ⟨rfl, hb_w1⟩; obtain ⟨hc_w1, hf_w1⟩ := bcell hb_w1; have hz_w1_w_0 : w.heap.size < w1.heap.size := (by have hzz := hb_w1.size; (try simp only [World.size_alloc, World.size_setCell, World.size_drew, World.heap_drewN] at hzz); omega); have hs_w1 := hb_w1.size; (try simp only [World.size_alloc, World.size_setCell, World.size_drew, World.heap_drewN] at hs_w1))
          | (go_at_call 37; refine (S.out _).mono ?_; rintro e w2 ⟨rfl, hb_w2⟩; obtain ⟨hc_w2, hf_w2⟩ := bcell hb_w2; have hz_w2_w_0 : w.heap.size < w2.heap.size := (by have hzz := hb_w2.size; (try simp only [World.size_alloc, World.size_setCell, World.size_drew, World.heap_drewN] at hzz); omega); have hs_w2 := hb_w2.size; (try simp only [World.size_alloc, World.size_setCell, World.size_drew, World.heap_drewN] at hs_w2)))
        go_ret2
        exact ⟨rfl, (by repeat (first | exact Below.refl _ _ | assumption | (refine below_drewN ?_ _) | (refine Below.drew ?_) | (refine Below.alloc ?_ (by first | omega | (simp; omega) | simp) _) | (refine Below.setCell ?_ (by first | omega | (simp; omega) | simp) _) | (refine below_trans ?_ (by assumption) (by first | omega | (simp; omega) | simp))))⟩
      · have d0 : decide (k < 0) = false := decide_eq_false k0
        have d1 : decide (n ≤ k) = true := decide_eq_true (by omega)
        clear hk
        go_enter Try.func15, Try.ntmps15
        go_wp2_with (first
          | (go_at_call 19; refine (V.out _ _ (by simp) (hA.later (by repeat (first | exact Below.refl _ _ | assumption | (refine below_drewN ?_ _) | (refine Below.drew ?_) | (refine Below.alloc ?_ (by first | omega | (simp; omega) | simp) _) | (refine Below.setCell ?_ (by first | omega | (simp; omega) | simp) _) | (refine below_trans ?_ (by assumption) (by first | omega | (simp; omega) | simp))))) (hM.later (by repeat (first | exact Below.refl _ _ | assumption | (refine below_drewN ?_ _) | (refine Below.drew ?_) | (refine Below.alloc ?_ (by first | omega | (simp; omega) | simp) _) | (refine Below.setCell ?_ (by first | omega | (simp; omega) | simp) _) | (refine below_trans ?_ (by assumption) (by first | omega | (simp; omega) | simp)))))).mono ?_; rintro e w1 ⟨rfl, hb_w1⟩; obtain ⟨hc_w1, hf_w1⟩ := bcell hb_w1; have hz_w1_w_0 : w.heap.size < w1.heap.size := (by have hzz := hb_w1.size; (try simp only [World.size_alloc, World.size_setCell, World.size_drew, World.heap_drewN] at hzz); omega); have hs_w1 := hb_w1.size; (try simp only [World.size_alloc, World.size_setCell, World.size_drew, World.heap_drewN] at hs_w1))
          | (go_at_call 37; refine (S.out _).mono ?_; rintro e w2 ⟨rfl, hb_w2⟩; obtain ⟨hc_w2, hf_w2⟩ := bcell hb_w2; have hz_w2_w_0 : w.heap.size < w2.heap.size := (by have hzz := hb_w2.size; (try simp only [World.size_alloc, World.size_setCell, World.size_drew, World.heap_drewN] at hzz); omega); have hs_w2 := hb_w2.size; (try simp only [World.size_alloc, World.size_setCell, World.size_drew, World.heap_drewN] at hs_w2)))
        go_ret2
        exact ⟨rfl, (by repeat (first | exact Below.refl _ _ | assumption | (refine below_drewN ?_ _) | (refine Below.drew ?_) | (refine Below.alloc ?_ (by first | omega | (simp; omega) | simp) _) | (refine Below.setCell ?_ (by first | omega | (simp; omega) | simp) _) | (refine below_trans ?_ (by assumption) (by first | omega | (simp; omega) | simp))))⟩
  · obtain ⟨rfl, rfl⟩ : r = 0 ∧ y = 2 := by
      rcases hy with ⟨a, _⟩ | ⟨a, _⟩ | ⟨_, a, b⟩
      · exact absurd a h
      · exact absurd a h
      · exact ⟨a, b⟩
    have V := Lib.hid fun (w : World) (g : Nat) (hg : w.heap.size = g) hA hM => scheck1_any (w := w) (d := d) (A := A) (M := M) ca cm hg hA hM 2 (.inr ⟨h, rfl⟩) 26
    clear h hy
    obtain ⟨f, p, z, an, aw, mn, mw, s⟩ := d
    simp only at *
    unfold spv
    simp only
    go_enter Try.func15, Try.ntmps15
    go_wp2_with (go_at_call 19; refine (V.out _ _ (by simp) (hA.later (by repeat (first | exact Below.refl _ _ | assumption | (refine below_drewN ?_ _) | (refine Below.drew ?_) | (refine Below.alloc ?_ (by first | omega | (simp; omega) | simp) _) | (refine Below.setCell ?_ (by first | omega | (simp; omega) | simp) _) | (refine below_trans ?_ (by assumption) (by first | omega | (simp; omega) | simp))))) (hM.later (by repeat (first | exact Below.refl _ _ | assumption | (refine below_drewN ?_ _) | (refine Below.drew ?_) | (refine Below.alloc ?_ (by first | omega | (simp; omega) | simp) _) | (refine Below.setCell ?_ (by first | omega | (simp; omega) | simp) _) | (refine below_trans ?_ (by assumption) (by first | omega | (simp; omega) | simp)))))).mono ?_; rintro e w1 ⟨rfl, hb_w1⟩; obtain ⟨hc_w1, hf_w1⟩ := bcell hb_w1; have hz_w1_w_0 : w.heap.size < w1.heap.size := (by have hzz := hb_w1.size; (try simp only [World.size_alloc, World.size_setCell, World.size_drew, World.heap_drewN] at hzz); omega); have hs_w1 := hb_w1.size; (try simp only [World.size_alloc, World.size_setCell, World.size_drew, World.heap_drewN] at hs_w1))
    go_ret2
    exact ⟨rfl, (by repeat (first | exact Below.refl _ _ | assumption | (refine below_drewN ?_ _) | (refine Below.drew ?_) | (refine Below.alloc ?_ (by first | omega | (simp; omega) | simp) _) | (refine Below.setCell ?_ (by first | omega | (simp; omega) | simp) _) | (refine below_trans ?_ (by assumption) (by first | omega | (simp; omega) | simp))))⟩
end
end Go.Proofs.Ythphefoohkofbaa

/- Contracts of package span: a new span. -/
namespace Go.Proofs.Ythphefoohkofbaa
open Go.RowKit
set_option linter.unusedVariables false
set_option linter.unusedSimpArgs false

theorem res_span {fn : Func} {p u : Tmp} (h : fn.results = #[.cell p 26, .tmp u]) {tmps : Array Value} {w : World} {g ca cm : Nat} {d : Sd} {A M : Option Addr} (hp : tmps.getD p undef = .pointer (some ⟨g, 0, none⟩))
    (h8 : Sp8 w g 0 d A ca M cm) : (results fn tmps).run Try.prog w = .ok (.tuple #[spv d A ca M cm, tmps.getD u undef]) w := by
  rw [results_cell_tmp h, hp]
  obtain ⟨c0, c1, c2, c3, c4, c5, c6, c7⟩ := h8
  simp only [Nat.zero_add] at c0 c1 c2 c3 c4 c5 c6 c7
  simp [go_sem, Result.andThen, c0, c1, c2, c3, c4, c5, c6, c7, asAddr, spv]
theorem Sp8.far {w : World} {g o ca cm : Nat} {d : Sd} {A M : Option Addr} (h : Sp8 w g o d A ca M cm) {p : Addr} (hp : p.block ≠ g) (u : Value) : Sp8 (w.setCell p u) g o d A ca M cm := by
  have k : ∀ i v, w.cell? ⟨g, i, none⟩ = some v → (w.setCell p u).cell? ⟨g, i, none⟩ = some v := fun i v hv => by
    rw [World.cell?_setCell_other]
    · exact hv
    · rintro rfl; exact hp rfl
  exact ⟨k _ _ h.c0, k _ _ h.c1, k _ _ h.c2, k _ _ h.c3, k _ _ h.c4, k _ _ h.c5, k _ _ h.c6, k _ _ h.c7⟩
theorem Sp8.set {w : World} {g ca cm ca' cm' : Nat} {d d' : Sd} {A M A' M' : Option Addr} (h : Sp8 w g 0 d A ca M cm) :
    Sp8 ((((((((w.setCell ⟨g, 0, none⟩ (.int .i64 d'.f)).setCell ⟨g, 1, none⟩ (.int .i64 d'.p)).setCell ⟨g, 2, none⟩ (.int .i64 d'.z)).setCell ⟨g, 3, none⟩ (.int .i64 d'.an)).setCell ⟨g, 4, none⟩ (.slice A' d'.aw.length ca')).setCell ⟨g, 5, none⟩ (.int .i64 d'.mn)).setCell ⟨g, 6, none⟩ (.slice M' d'.mw.length cm')).setCell ⟨g, 7, none⟩ (.bool d'.s)) g 0 d' A' ca' M' cm' := by
  obtain ⟨c0, c1, c2, c3, c4, c5, c6, c7⟩ := h
  simp only [Nat.zero_add] at c0 c1 c2 c3 c4 c5 c6 c7
  constructor <;> simp [go_sem, c0, c1, c2, c3, c4, c5, c6, c7]
/-- the span that Make makes -/
def newSd (f p z : Int) : Sd := ⟨f, p, z, slotsOf z, wordsN (slotsOf z), slotsOf z, wordsN (slotsOf z), true⟩
/-- a span of a call's own, and an error's number -/
def FreshS (w : World) (d : Sd) (y : Int) (e : Ending) (w' : World) : Prop :=
  ∃ A ca M cm, e = .returned (.tuple #[spv d A ca M cm, .int .i64 y]) ∧ Own w' w.heap.size A d.aw ∧ Own w' w.heap.size M d.mw ∧ Below w.heap.size w w'
section
variable {w : World} (f p z : Int)
set_option maxHeartbeats 1000000 in
theorem sMake_ok (h1 : Sized p z) (h2 : Placed f p) : Calls Try.prog 11 #[.int .i64 f, .int .i64 p, .int .i64 z] w fun e w' => FreshS w (newSd f p z) 0 e w' := by
  have hs := h1.slots
  have Z := Lib.hid fun (w : World) => ssized_any (w := w) ⟨f, p, z, 0, [], 0, [], true⟩ none 0 none 0 true (decide_eq_true h1)
  have P := Lib.hid fun (w : World) => splaced_any (w := w) ⟨f, p, z, 0, [], 0, [], true⟩ none 0 none 0 (by simp only; omega) true (decide_eq_true h2)
  have S1 := Lib.hid fun (w : World) => sslots_any (w := w) ⟨f, p, z, 0, [], 0, [], true⟩ none 0 none 0 h1
  have S2 := Lib.hid fun (w : World) A ca n (ws : List Nat) => sslots_any (w := w) ⟨f, p, z, n, ws, 0, [], true⟩ A ca none 0 h1
  have K := Lib.hid fun (w : World) => make_ok (slotsOf z) w (by omega) (by omega)
  unfold FreshS newSd
  clear h1 h2
  unfold spv at *
  simp only [List.length_nil] at *
  generalize slotsOf z = n at *
  unfold Fresh at K
  generalize wordsN n = ws at *
  go_enter Try.func11, Try.ntmps11
  go_wp2_with fail
  go_at_call 34
  refine (Z.out _).mono ?_
  rintro e w1 ⟨rfl, hb_w1⟩
  obtain ⟨hc_w1, hf_w1⟩ := bcell hb_w1; have hz_w1_w_0 : w.heap.size < w1.heap.size := (by have hzz := hb_w1.size; (try simp only [World.size_alloc, World.size_setCell, World.size_drew, World.heap_drewN] at hzz); omega); have hz_w1_w_1 : w.heap.size + 1 < w1.heap.size := (by have hzz := hb_w1.size; (try simp only [World.size_alloc, World.size_setCell, World.size_drew, World.heap_drewN] at hzz); omega); have hs_w1 := hb_w1.size; (try simp only [World.size_alloc, World.size_setCell, World.size_drew, World.heap_drewN] at hs_w1)
  have Z1 : Sp8 w1 w.heap.size 0 sd0 none 0 none 0 := by constructor <;> exact (hc_w1 _ _ (by first | omega | (simp; omega) | simp)).trans (by simp [go_sem, sd0])
  go_wp2_with fail
  go_at_call 35
  refine (P.out _).mono ?_
  rintro e w2 ⟨rfl, hb_w2⟩
  obtain ⟨hc_w2, hf_w2⟩ := bcell hb_w2; have hz_w2_w_0 : w.heap.size < w2.heap.size := (by have hzz := hb_w2.size; (try simp only [World.size_alloc, World.size_setCell, World.size_drew, World.heap_drewN] at hzz); omega); have hz_w2_w_1 : w.heap.size + 1 < w2.heap.size := (by have hzz := hb_w2.size; (try simp only [World.size_alloc, World.size_setCell, World.size_drew, World.heap_drewN] at hzz); omega); have hs_w2 := hb_w2.size; (try simp only [World.size_alloc, World.size_setCell, World.size_drew, World.heap_drewN] at hs_w2)
  go_wp2_with fail
  go_at_call 37
  refine (S1.out _).mono ?_
  rintro e w3 ⟨rfl, hb_w3⟩
  obtain ⟨hc_w3, hf_w3⟩ := bcell hb_w3; have hz_w3_w_0 : w.heap.size < w3.heap.size := (by have hzz := hb_w3.size; (try simp only [World.size_alloc, World.size_setCell, World.size_drew, World.heap_drewN] at hzz); omega); have hz_w3_w_1 : w.heap.size + 1 < w3.heap.size := (by have hzz := hb_w3.size; (try simp only [World.size_alloc, World.size_setCell, World.size_drew, World.heap_drewN] at hzz); omega); have hs_w3 := hb_w3.size; (try simp only [World.size_alloc, World.size_setCell, World.size_drew, World.heap_drewN] at hs_w3)
  go_wp2_with fail
  go_at_call 36
  refine (K.out _).mono ?_
  rintro e w4 ⟨A4, ca4, rfl, ho4, hb_w4⟩
  obtain ⟨hc_w4, hf_w4⟩ := bcell hb_w4; have hz_w4_w_0 : w.heap.size < w4.heap.size := (by have hzz := hb_w4.size; (try simp only [World.size_alloc, World.size_setCell, World.size_drew, World.heap_drewN] at hzz); omega); have hz_w4_w_1 : w.heap.size + 1 < w4.heap.size := (by have hzz := hb_w4.size; (try simp only [World.size_alloc, World.size_setCell, World.size_drew, World.heap_drewN] at hzz); omega); have hs_w4 := hb_w4.size; (try simp only [World.size_alloc, World.size_setCell, World.size_drew, World.heap_drewN] at hs_w4)
  go_wp2_with fail
  go_at_call 37
  refine (S2.out _ A4 ca4 n ws).mono ?_
  rintro e w5 ⟨rfl, hb_w5⟩
  obtain ⟨hc_w5, hf_w5⟩ := bcell hb_w5; have hz_w5_w_0 : w.heap.size < w5.heap.size := (by have hzz := hb_w5.size; (try simp only [World.size_alloc, World.size_setCell, World.size_drew, World.heap_drewN] at hzz); omega); have hz_w5_w_1 : w.heap.size + 1 < w5.heap.size := (by have hzz := hb_w5.size; (try simp only [World.size_alloc, World.size_setCell, World.size_drew, World.heap_drewN] at hzz); omega); have hs_w5 := hb_w5.size; (try simp only [World.size_alloc, World.size_setCell, World.size_drew, World.heap_drewN] at hs_w5)
  go_wp2_with fail
  go_at_call 36
  refine (K.out _).mono ?_
  rintro e w6 ⟨A6, ca6, rfl, ho6, hb_w6⟩
  obtain ⟨hc_w6, hf_w6⟩ := bcell hb_w6; have hz_w6_w_0 : w.heap.size < w6.heap.size := (by have hzz := hb_w6.size; (try simp only [World.size_alloc, World.size_setCell, World.size_drew, World.heap_drewN] at hzz); omega); have hz_w6_w_1 : w.heap.size + 1 < w6.heap.size := (by have hzz := hb_w6.size; (try simp only [World.size_alloc, World.size_setCell, World.size_drew, World.heap_drewN] at hzz); omega); have hs_w6 := hb_w6.size; (try simp only [World.size_alloc, World.size_setCell, World.size_drew, World.heap_drewN] at hs_w6)
  have bW : Below w.heap.size w w6 := (by repeat (first | exact Below.refl _ _ | assumption | (refine below_drewN ?_ _) | (refine Below.drew ?_) | (refine Below.alloc ?_ (by first | omega | (simp; omega) | simp) _) | (refine Below.setCell ?_ (by first | omega | (simp; omega) | simp) _) | (refine below_trans ?_ (by assumption) (by first | omega | (simp; omega) | simp))))
  have Z4 := ((Z1.below hb_w2 (by first | omega | (simp; omega) | simp)).below hb_w3 (by first | omega | (simp; omega) | simp)).below hb_w4 (by first | omega | (simp; omega) | simp)
  have Z6 := ((((Z4.far (p := ⟨w.heap.size + 1, 3, none⟩) (by simp) (.int .i64 n)).far (p := ⟨w.heap.size + 1, 4, none⟩) (by simp) (.slice A4 ws.length ca4)).below hb_w5 (by first | omega | (simp; omega) | simp)).below hb_w6 (by first | omega | (simp; omega) | simp))
  have O5 := ((ho4.far (p := ⟨w.heap.size + 1, 3, none⟩) (.inl (by first | omega | (simp; omega) | simp)) (.int .i64 n)).far (p := ⟨w.heap.size + 1, 4, none⟩) (.inl (by first | omega | (simp; omega) | simp)) (.slice A4 ws.length ca4)).later hb_w5
  have O6 := O5.later hb_w6
  go_wp2
  have Z7 := (Z6.far (p := ⟨w.heap.size + 1, 5, none⟩) (by simp) (.int .i64 n)).far (p := ⟨w.heap.size + 1, 6, none⟩) (by simp) (.slice A6 ws.length ca6)
  have Z8 := Z7.set (d' := ⟨f, p, z, n, ws, n, ws, true⟩) (A' := A4) (ca' := ca4) (M' := A6) (cm' := ca6)
  refine bodyPost_ret (res_span rfl rfl Z8) rfl ⟨A4, ca4, A6, ca6, rfl, ?_, ?_, ?_⟩
  · refine Own.mono (B := w3.heap.size) ?_ (by first | omega | (simp; omega) | simp)
    iterate 10 (refine Own.far ?_ (.inl (by first | omega | (simp; omega) | simp)) _)
    exact O6
  · refine Own.mono (B := w5.heap.size) ?_ (by first | omega | (simp; omega) | simp)
    iterate 10 (refine Own.far ?_ (.inl (by first | omega | (simp; omega) | simp)) _)
    exact ho6
  · iterate 10 (refine Below.setCell ?_ (by first | omega | (simp; omega) | simp) _)
    exact bW
theorem sMake_bad (h : ¬ (Sized p z ∧ Placed f p)) : Calls Try.prog 11 #[.int .i64 f, .int .i64 p, .int .i64 z] w fun e w' => FreshS w sd0 2 e w' := by
  by_cases h1 : Sized p z
  · have hs := h1.slots
    have Z := Lib.hid fun (w : World) => ssized_any (w := w) ⟨f, p, z, 0, [], 0, [], true⟩ none 0 none 0 true (decide_eq_true h1)
    have P := Lib.hid fun (w : World) => splaced_any (w := w) ⟨f, p, z, 0, [], 0, [], true⟩ none 0 none 0 (by simp only; omega) false (decide_eq_false fun h2 => h ⟨h1, h2⟩)
    unfold FreshS
    clear h1 h hs
    unfold spv at Z P
    simp only [List.length_nil] at Z P
    go_enter Try.func11, Try.ntmps11
    go_wp2_with fail
    go_at_call 34
    refine (Z.out _).mono ?_
    rintro e w1 ⟨rfl, hb_w1⟩
    obtain ⟨hc_w1, hf_w1⟩ := bcell hb_w1; have hz_w1_w_0 : w.heap.size < w1.heap.size := (by have hzz := hb_w1.size; (try simp only [World.size_alloc, World.size_setCell, World.size_drew, World.heap_drewN] at hzz); omega); have hz_w1_w_1 : w.heap.size + 1 < w1.heap.size := (by have hzz := hb_w1.size; (try simp only [World.size_alloc, World.size_setCell, World.size_drew, World.heap_drewN] at hzz); omega); have hs_w1 := hb_w1.size; (try simp only [World.size_alloc, World.size_setCell, World.size_drew, World.heap_drewN] at hs_w1)
    have Z1 : Sp8 w1 w.heap.size 0 sd0 none 0 none 0 := by constructor <;> exact (hc_w1 _ _ (by first | omega | (simp; omega) | simp)).trans (by simp [go_sem, sd0])
    go_wp2_with fail
    go_at_call 35
    refine (P.out _).mono ?_
    rintro e w2 ⟨rfl, hb_w2⟩
    obtain ⟨hc_w2, hf_w2⟩ := bcell hb_w2; have hz_w2_w_0 : w.heap.size < w2.heap.size := (by have hzz := hb_w2.size; (try simp only [World.size_alloc, World.size_setCell, World.size_drew, World.heap_drewN] at hzz); omega); have hz_w2_w_1 : w.heap.size + 1 < w2.heap.size := (by have hzz := hb_w2.size; (try simp only [World.size_alloc, World.size_setCell, World.size_drew, World.heap_drewN] at hzz); omega); have hs_w2 := hb_w2.size; (try simp only [World.size_alloc, World.size_setCell, World.size_drew, World.heap_drewN] at hs_w2)
    have bW : Below w.heap.size w w2 := (by repeat (first | exact Below.refl _ _ | assumption | (refine below_drewN ?_ _) | (refine Below.drew ?_) | (refine Below.alloc ?_ (by first | omega | (simp; omega) | simp) _) | (refine Below.setCell ?_ (by first | omega | (simp; omega) | simp) _) | (refine below_trans ?_ (by assumption) (by first | omega | (simp; omega) | simp))))
    have Z2 := Z1.below hb_w2 (by first | omega | (simp; omega) | simp)
    go_wp2
    refine bodyPost_ret (res_span rfl rfl (Z2.set (d' := sd0) (A' := none) (ca' := 0) (M' := none) (cm' := 0))) rfl ⟨none, 0, none, 0, rfl, Own.nil _ _, Own.nil _ _, ?_⟩
    iterate 8 (refine Below.setCell ?_ (by first | omega | (simp; omega) | simp) _)
    exact bW
  · have Z := Lib.hid fun (w : World) => ssized_any (w := w) ⟨f, p, z, 0, [], 0, [], true⟩ none 0 none 0 false (decide_eq_false h1)
    unfold FreshS
    clear h1 h
    unfold spv at Z
    simp only [List.length_nil] at Z
    go_enter Try.func11, Try.ntmps11
    go_wp2_with fail
    go_at_call 34
    refine (Z.out _).mono ?_
    rintro e w1 ⟨rfl, hb_w1⟩
    obtain ⟨hc_w1, hf_w1⟩ := bcell hb_w1; have hz_w1_w_0 : w.heap.size < w1.heap.size := (by have hzz := hb_w1.size; (try simp only [World.size_alloc, World.size_setCell, World.size_drew, World.heap_drewN] at hzz); omega); have hz_w1_w_1 : w.heap.size + 1 < w1.heap.size := (by have hzz := hb_w1.size; (try simp only [World.size_alloc, World.size_setCell, World.size_drew, World.heap_drewN] at hzz); omega); have hs_w1 := hb_w1.size; (try simp only [World.size_alloc, World.size_setCell, World.size_drew, World.heap_drewN] at hs_w1)
    have Z1 : Sp8 w1 w.heap.size 0 sd0 none 0 none 0 := by constructor <;> exact (hc_w1 _ _ (by first | omega | (simp; omega) | simp)).trans (by simp [go_sem, sd0])
    have bW : Below w.heap.size w w1 := (by repeat (first | exact Below.refl _ _ | assumption | (refine below_drewN ?_ _) | (refine Below.drew ?_) | (refine Below.alloc ?_ (by first | omega | (simp; omega) | simp) _) | (refine Below.setCell ?_ (by first | omega | (simp; omega) | simp) _) | (refine below_trans ?_ (by assumption) (by first | omega | (simp; omega) | simp))))
    go_wp2
    refine bodyPost_ret (res_span rfl rfl (Z1.set (d' := sd0) (A' := none) (ca' := 0) (M' := none) (cm' := 0))) rfl ⟨none, 0, none, 0, rfl, Own.nil _ _, Own.nil _ _, ?_⟩
    iterate 8 (refine Below.setCell ?_ (by first | omega | (simp; omega) | simp) _)
    exact bW
end
end Go.Proofs.Ythphefoohkofbaa

/- Contracts of package span: the search by a function that is handed in. -/
namespace Go.Proofs.Ythphefoohkofbaa
open Go.RowKit
set_option linter.unusedVariables false
set_option linter.unusedSimpArgs false

/-- r is the index of the first span of which p says yes, or -1 -/
def IdxE (l : List Sd) (p : Sd → Bool) (r : Int) : Prop := (r = -1 ∧ ∀ i, i < l.length → p (nth l i) = false) ∨ (∃ i : Nat, r = i ∧ i < l.length ∧ p (nth l i) = true ∧ ∀ j, j < i → p (nth l j) = false)
/-- what is handed in says p of each span of l, in each world that has what w has -/
def Says (g : FuncId) (lb : Array Value) (l : List Sd) (p : Sd → Bool) (w : World) : Prop :=
  ∀ (W : World) (i : Nat) (A M : Option Addr) (ca cm : Nat), Below w.heap.size w W → i < l.length → Row W W.heap.size A (nth l i).aw → Row W W.heap.size M (nth l i).mw →
    Calls Try.prog g (#[spv (nth l i) A ca M cm] ++ lb) W fun e W' => e = .returned (.bool (p (nth l i))) ∧ Below W.heap.size W W'
section
variable {w : World} {A : Option Addr} {l : List Sd} (cap : Nat)
set_option maxHeartbeats 1000000 in
theorem sindex_any (g : FuncId) (lb : Array Value) (p : Sd → Bool) (eg : ∀ args w, (callFunc g args).run Try.prog w = .ok (.enter g args) w) (hr : SRow w w.heap.size A l) (hl : l.length ≤ 17592186044416) (hs : Says g lb l p w) (r : Int) (hI : IdxE l p r) :
    Calls Try.prog 47 #[.slice A l.length cap, .func (.func g) #[] lb] w fun e w' => e = .returned (.int .i64 r) ∧ Below w.heap.size w w' := by
  have HI := Lib.hid hI
  have HS := Lib.hid hs
  clear hI hs
  go_enter Try.func47, Try.ntmps47
  go_wp2_with fail
  go_loopw [8] (fun ii wr => ∃ k : Nat, ii = .int .i64 (k : Nat) ∧ k ≤ l.length ∧ (∀ j, j < k → p (nth l j) = false) ∧ Below w.heap.size w wr) (fun ii _ => l.length - (intOf ii).toNat)
  case atStart => exact ⟨0, rfl, Nat.zero_le _, fun j hj => by omega, (by repeat (first | exact Below.refl _ _ | assumption | (refine below_drewN ?_ _) | (refine Below.drew ?_) | (refine Below.alloc ?_ (by first | omega | (simp; omega) | simp) _) | (refine Below.setCell ?_ (by first | omega | (simp; omega) | simp) _) | (refine below_trans ?_ (by assumption) (by first | omega | (simp; omega) | simp))))⟩
  case round =>
    obtain ⟨k, rfl, hk, hA, hb_wr⟩ := hrel
    have hsr := hb_wr.size
    have HA := Lib.hid hA
    clear hA
    by_cases hlt : k < l.length
    · obtain ⟨b, off, rfl, hbb, hc⟩ := (hr.later hb_wr).at_ (by omega)
      obtain ⟨Aa, ca, Am, cm, c8, ra, rm⟩ := hc k hlt
      have hcall := HS.out wr k Aa Am ca cm hb_wr hlt ra rm
      obtain ⟨d, hd⟩ : ∃ d, Hid (nth l k = d) := ⟨_, rfl⟩
      rw [hd.out] at c8 ra rm hcall
      obtain ⟨c0, c1, c2, c3, c4, c5, c6, c7⟩ := id c8
      clear hc
      rcases hq : p d with _ | _
      · rw [hq] at hcall
        have HC := Lib.hid hcall
        have HN : Hid (∀ j, j < k + 1 → p (nth l j) = false) := Lib.hid fun j hj => by
          by_cases e : j = k
          · rw [e, hd.out]; exact hq
          · exact HA.out j (by omega)
        clear hcall
        obtain ⟨f, p', z, an, aw, mn, mw, s⟩ := d
        simp only at c0 c1 c2 c3 c4 c5 c6 c7
        unfold spv at HC
        simp only at HC
        go_wp2_with (refine HC.out.mono ?_; rintro e w1 ⟨rfl, hb_w1⟩; obtain ⟨hc_w1, hf_w1⟩ := bcell hb_w1; have hs_w1 := hb_w1.size; (try simp only [World.size_alloc, World.size_setCell, World.size_drew, World.heap_drewN] at hs_w1))
        go_roundw
        case rel => exact ⟨k + 1, by go_num, by omega, HN.out, (by repeat (first | exact Below.refl _ _ | assumption | (refine below_drewN ?_ _) | (refine Below.drew ?_) | (refine Below.alloc ?_ (by first | omega | (simp; omega) | simp) _) | (refine Below.setCell ?_ (by first | omega | (simp; omega) | simp) _) | (refine below_trans ?_ (by assumption) (by first | omega | (simp; omega) | simp))))⟩
        case measure => simp [intOf]; omega
      · rw [hq] at hcall
        have HC := Lib.hid hcall
        obtain rfl : r = (k : Int) := by
          rcases HI.out with ⟨_, h⟩ | ⟨i, h1, h2, h3, h4⟩
          · have := h k hlt
            rw [hd.out, hq] at this
            cases this
          · rw [h1]
            rcases Nat.lt_trichotomy i k with h | h | h
            · rw [HA.out i h] at h3; cases h3
            · rw [h]
            · have := h4 k h
              rw [hd.out, hq] at this
              cases this
        clear hcall
        obtain ⟨f, p', z, an, aw, mn, mw, s⟩ := d
        simp only at c0 c1 c2 c3 c4 c5 c6 c7
        unfold spv at HC
        simp only at HC
        go_wp2_with (refine HC.out.mono ?_; rintro e w1 ⟨rfl, hb_w1⟩; obtain ⟨hc_w1, hf_w1⟩ := bcell hb_w1; have hs_w1 := hb_w1.size; (try simp only [World.size_alloc, World.size_setCell, World.size_drew, World.heap_drewN] at hs_w1))
        go_ret
        exact ⟨rfl, (by repeat (first | exact Below.refl _ _ | assumption | (refine below_drewN ?_ _) | (refine Below.drew ?_) | (refine Below.alloc ?_ (by first | omega | (simp; omega) | simp) _) | (refine Below.setCell ?_ (by first | omega | (simp; omega) | simp) _) | (refine below_trans ?_ (by assumption) (by first | omega | (simp; omega) | simp))))⟩
    · obtain rfl : k = l.length := by omega
      obtain rfl : r = -1 := by
        rcases HI.out with ⟨h, _⟩ | ⟨i, h1, h2, h3, h4⟩
        · exact h
        · rw [HA.out i h2] at h3; cases h3
      go_wp2
      go_ret
      exact ⟨rfl, (by repeat (first | exact Below.refl _ _ | assumption | (refine below_drewN ?_ _) | (refine Below.drew ?_) | (refine Below.alloc ?_ (by first | omega | (simp; omega) | simp) _) | (refine Below.setCell ?_ (by first | omega | (simp; omega) | simp) _) | (refine below_trans ?_ (by assumption) (by first | omega | (simp; omega) | simp))))⟩
end
end Go.Proofs.Ythphefoohkofbaa

/- Contracts of package span: the search among a span's slots. -/
namespace Go.Proofs.Ythphefoohkofbaa
open Go.RowKit
set_option linter.unusedVariables false
set_option linter.unusedSimpArgs false

/-- r is the first of n numbers of which q says yes, or -1 -/
def IdxN (n : Nat) (q : Nat → Bool) (r : Int) : Prop := (r = -1 ∧ ∀ i, i < n → q i = false) ∨ (∃ i : Nat, r = i ∧ i < n ∧ q i = true ∧ ∀ j, j < i → q j = false)
theorem IdxN.ex (n : Nat) (q : Nat → Bool) : ∃ r, IdxN n q r := by
  induction n with
  | zero => exact ⟨-1, .inl ⟨rfl, fun i hi => by omega⟩⟩
  | succ n ih =>
    obtain ⟨r, ⟨h1, h2⟩ | ⟨i, h1, h2, h3, h4⟩⟩ := ih
    · rcases hq : q n with _ | _
      · exact ⟨-1, .inl ⟨rfl, fun i hi => by
          by_cases e : i = n
          · rw [e]; exact hq
          · exact h2 i (by omega)⟩⟩
      · exact ⟨n, .inr ⟨n, rfl, by omega, hq, h2⟩⟩
    · exact ⟨r, .inr ⟨i, h1, by omega, h3, h4⟩⟩
theorem IdxE.ex (l : List Sd) (p : Sd → Bool) : ∃ r, IdxE l p r := by
  obtain ⟨r, h⟩ := IdxN.ex l.length fun i => p (nth l i)
  exact ⟨r, h⟩
def SaysN (g : FuncId) (lb : Array Value) (n : Nat) (q : Nat → Bool) (w : World) : Prop :=
  ∀ (W : World) (k : Nat), Below w.heap.size w W → k < n → Calls Try.prog g (#[.int .i64 (k : Nat)] ++ lb) W fun e W' => e = .returned (.bool (q k)) ∧ Below W.heap.size W W'
section
variable {w : World} {d : Sd} {A M : Option Addr} (ca cm : Nat)
theorem salloc_any (hA : Row w w.heap.size A d.aw) (h : Right d.an d.aw) (k : Int) (h0 : 0 ≤ k) (h1 : k < d.an) :
    Calls Try.prog 52 #[spv d A ca M cm, .int .i64 k] w fun e w' => e = .returned (.bool (tb d.aw k.toNat)) ∧ Below w.heap.size w w' := by
  have H := Lib.hid h
  clear h
  obtain ⟨f, p, z, an, aw, mn, mw, s⟩ := d
  simp only at *
  unfold spv
  simp only
  rcases hb : tb aw k.toNat with _ | _
  all_goals
    go_enter Try.func52, Try.ntmps52
    go_wp2_with (go_at_call 31; refine (get_in ca k (hA.later (by repeat (first | exact Below.refl _ _ | assumption | (refine below_drewN ?_ _) | (refine Below.drew ?_) | (refine Below.alloc ?_ (by first | omega | (simp; omega) | simp) _) | (refine Below.setCell ?_ (by first | omega | (simp; omega) | simp) _) | (refine below_trans ?_ (by assumption) (by first | omega | (simp; omega) | simp))))) H.out h0 h1).mono ?_; rintro e w1 ⟨rfl, hb_w1⟩; rw [hb]; obtain ⟨hc_w1, hf_w1⟩ := bcell hb_w1; have hz_w1_w_0 : w.heap.size < w1.heap.size := (by have hzz := hb_w1.size; (try simp only [World.size_alloc, World.size_setCell, World.size_drew, World.heap_drewN] at hzz); omega); have hs_w1 := hb_w1.size; (try simp only [World.size_alloc, World.size_setCell, World.size_drew, World.heap_drewN] at hs_w1))
    go_ret
    exact ⟨rfl, (by repeat (first | exact Below.refl _ _ | assumption | (refine below_drewN ?_ _) | (refine Below.drew ?_) | (refine Below.alloc ?_ (by first | omega | (simp; omega) | simp) _) | (refine Below.setCell ?_ (by first | omega | (simp; omega) | simp) _) | (refine below_trans ?_ (by assumption) (by first | omega | (simp; omega) | simp))))⟩
set_option maxHeartbeats 1000000 in
theorem swhere_any {p : Int} (h : Sized p d.z) (g : FuncId) (lb : Array Value) (n : Nat) (hn : slotsOf d.z = n) (q : Nat → Bool) (eg : ∀ args w, (callFunc g args).run Try.prog w = .ok (.enter g args) w) (hs : SaysN g lb n q w) (r : Int) (hI : IdxN n q r) :
    Calls Try.prog 50 #[spv d A ca M cm, .func (.func g) #[] lb] w fun e w' => e = .returned (.int .i64 r) ∧ Below w.heap.size w w' := by
  have HI := Lib.hid hI
  have HS := Lib.hid hs
  have hz := h.slots
  have S := Lib.hid fun (w : World) => sslots_any (w := w) d A ca M cm h
  rw [hn] at S hz
  clear hI hs h hn
  obtain ⟨f, p, z, an, aw, mn, mw, s⟩ := d
  simp only at *
  unfold spv at S ⊢
  simp only at S ⊢
  go_enter Try.func50, Try.ntmps50
  go_wp2_with fail
  go_at_call 37
  refine (S.out _).mono ?_
  rintro e w1 ⟨rfl, hb_w1⟩
  obtain ⟨hc_w1, hf_w1⟩ := bcell hb_w1; have hz_w1_w_0 : w.heap.size < w1.heap.size := (by have hzz := hb_w1.size; (try simp only [World.size_alloc, World.size_setCell, World.size_drew, World.heap_drewN] at hzz); omega); have hs_w1 := hb_w1.size; (try simp only [World.size_alloc, World.size_setCell, World.size_drew, World.heap_drewN] at hs_w1)
  have b1 : Below w.heap.size w w1 := (by repeat (first | exact Below.refl _ _ | assumption | (refine below_drewN ?_ _) | (refine Below.drew ?_) | (refine Below.alloc ?_ (by first | omega | (simp; omega) | simp) _) | (refine Below.setCell ?_ (by first | omega | (simp; omega) | simp) _) | (refine below_trans ?_ (by assumption) (by first | omega | (simp; omega) | simp))))
  clear hc_w1 hf_w1
  go_wp2_with fail
  go_loopw [8] (fun ii wr => ∃ k : Nat, ii = .int .i64 (k : Nat) ∧ k ≤ n ∧ (∀ j, j < k → q j = false) ∧ Below w.heap.size w wr) (fun ii _ => n - (intOf ii).toNat)
  case atStart => exact ⟨0, rfl, Nat.zero_le _, fun j hj => by omega, b1⟩
  case round =>
    obtain ⟨k, rfl, hk, hA, hb_wr⟩ := hrel
    have hsr := hb_wr.size
    have HA := Lib.hid hA
    clear hA
    by_cases hlt : k < n
    · have hcall := HS.out wr k hb_wr hlt
      rcases hq : q k with _ | _
      · rw [hq] at hcall
        have HC := Lib.hid hcall
        have HN : Hid (∀ j, j < k + 1 → q j = false) := Lib.hid fun j hj => by
          by_cases e : j = k
          · rw [e]; exact hq
          · exact HA.out j (by omega)
        clear hcall
        go_wp2_with (refine HC.out.mono ?_; rintro e w2 ⟨rfl, hb_w2⟩; obtain ⟨hc_w2, hf_w2⟩ := bcell hb_w2; have hs_w2 := hb_w2.size; (try simp only [World.size_alloc, World.size_setCell, World.size_drew, World.heap_drewN] at hs_w2))
        go_roundw
        case rel => exact ⟨k + 1, by go_num, by omega, HN.out, (by repeat (first | exact Below.refl _ _ | assumption | (refine below_drewN ?_ _) | (refine Below.drew ?_) | (refine Below.alloc ?_ (by first | omega | (simp; omega) | simp) _) | (refine Below.setCell ?_ (by first | omega | (simp; omega) | simp) _) | (refine below_trans ?_ (by assumption) (by first | omega | (simp; omega) | simp))))⟩
        case measure => simp [intOf]; omega
      · rw [hq] at hcall
        have HC := Lib.hid hcall
        obtain rfl : r = (k : Int) := by
          rcases HI.out with ⟨_, h⟩ | ⟨i, h1, h2, h3, h4⟩
          · have := h k hlt
            rw [hq] at this
            cases this
          · rw [h1]
            rcases Nat.lt_trichotomy i k with h | h | h
            · rw [HA.out i h] at h3; cases h3
            · rw [h]
            · have := h4 k h
              rw [hq] at this
              cases this
        clear hcall
        go_wp2_with (refine HC.out.mono ?_; rintro e w2 ⟨rfl, hb_w2⟩; obtain ⟨hc_w2, hf_w2⟩ := bcell hb_w2; have hs_w2 := hb_w2.size; (try simp only [World.size_alloc, World.size_setCell, World.size_drew, World.heap_drewN] at hs_w2))
        go_ret
        exact ⟨rfl, (by repeat (first | exact Below.refl _ _ | assumption | (refine below_drewN ?_ _) | (refine Below.drew ?_) | (refine Below.alloc ?_ (by first | omega | (simp; omega) | simp) _) | (refine Below.setCell ?_ (by first | omega | (simp; omega) | simp) _) | (refine below_trans ?_ (by assumption) (by first | omega | (simp; omega) | simp))))⟩
    · obtain rfl : k = n := by omega
      obtain rfl : r = -1 := by
        rcases HI.out with ⟨h, _⟩ | ⟨i, h1, h2, h3, h4⟩
        · exact h
        · rw [HA.out i h2] at h3; cases h3
      go_wp2
      go_ret
      exact ⟨rfl, (by repeat (first | exact Below.refl _ _ | assumption | (refine below_drewN ?_ _) | (refine Below.drew ?_) | (refine Below.alloc ?_ (by first | omega | (simp; omega) | simp) _) | (refine Below.setCell ?_ (by first | omega | (simp; omega) | simp) _) | (refine below_trans ?_ (by assumption) (by first | omega | (simp; omega) | simp))))⟩
end
end Go.Proofs.Ythphefoohkofbaa

/- Contracts of package span: where an address leads. -/
namespace Go.Proofs.Ythphefoohkofbaa
open Go.RowKit
set_option linter.unusedVariables false
set_option linter.unusedSimpArgs false

/-- an address lies in a span's pages -/
def inP (a : Nat) (d : Sd) : Bool := decide (d.f * 16 ≤ (a : Int) ∧ (a : Int) < (d.f + d.p) * 16)
/-- it is that of a slot in which an object is -/
def isAt (a : Nat) (d : Sd) (k : Nat) : Bool := decide (d.f * 16 + (k : Int) * d.z = (a : Int)) && tb d.aw k
section
variable {w : World} {d : Sd} {A M : Option Addr} (ca cm : Nat)
set_option maxHeartbeats 1000000 in
theorem sfind1_any (a B : Nat) (h : Ok1 d) (hB : w.cell? ⟨B, 0, none⟩ = some (.int .u64 (a : Nat))) :
    Calls Try.prog 48 #[spv d A ca M cm, .pointer (some ⟨B, 0, none⟩)] w fun e w' => e = .returned (.bool (inP a d)) ∧ Below w.heap.size w w' := by
  have hp := h.placed
  unfold Placed at hp
  have hs := h.sized.slots
  have hlt := World.block_lt_of_cell? w _ hB
  have G := Lib.hid fun (w : World) => sbehind_any (w := w) d A ca M cm (by omega) (by omega)
  obtain ⟨p0, p1⟩ := hp
  clear h
  unfold inP
  obtain ⟨f, p, z, an, aw, mn, mw, s⟩ := d
  simp only at *
  unfold spv at G ⊢
  simp only at G ⊢
  have k0 : (w.alloc (.cells #[.int .i64 f, .int .i64 p, .int .i64 z, .int .i64 an, .slice A aw.length ca, .int .i64 mn, .slice M mw.length cm, .bool s] 26)).cell? ⟨B, 0, none⟩ = some (.int .u64 (a : Nat)) := (World.cell?_alloc_lt _ _ ⟨_, _, _⟩ hlt).trans hB
  by_cases h1 : f * 16 ≤ (a : Int)
  · have d1 : decide (f * 16 ≤ (a : Int)) = true := decide_eq_true h1
    have e1 : decide (f * 16 ≤ (a : Int) ∧ (a : Int) < (f + p) * 16) = decide ((a : Int) < (f + p) * 16) := by simp [h1]
    rw [e1]
    clear e1
    go_enter Try.func48, Try.ntmps48
    go_wp2_with fail
    go_region_held3 (fun X : World => X.cell? ⟨w.heap.size, 0, none⟩ = some (.int .i64 f) ∧ X.cell? ⟨w.heap.size, 1, none⟩ = some (.int .i64 p) ∧ X.cell? ⟨w.heap.size, 2, none⟩ = some (.int .i64 z) ∧ X.cell? ⟨w.heap.size, 3, none⟩ = some (.int .i64 an) ∧ X.cell? ⟨w.heap.size, 4, none⟩ = some (.slice A aw.length ca) ∧ X.cell? ⟨w.heap.size, 5, none⟩ = some (.int .i64 mn) ∧ X.cell? ⟨w.heap.size, 6, none⟩ = some (.slice M mw.length cm) ∧ X.cell? ⟨w.heap.size, 7, none⟩ = some (.bool s) ∧ X.cell? ⟨B, 0, none⟩ = some (.int .u64 (a : Nat)))
      ((refine ⟨?_, ?_, ?_, ?_, ?_, ?_, ?_, ?_, ?_⟩ <;> first | assumption | (simp [go_sem]; done)))
      ((first
        | (go_at_call 49; refine (spage_any f (by omega) (by omega)).mono ?_; rintro e w1 ⟨rfl, rfl⟩)
        | (go_at_call 49; refine (spage_any (f + p) (by omega) (by omega)).mono ?_; rintro e w1 ⟨rfl, rfl⟩)
        | (go_at_call 46; refine (G.out _).mono ?_; rintro e w2 ⟨rfl, hb_w2⟩; obtain ⟨hc_w2, hf_w2⟩ := bcell hb_w2; have hz_w2_w_0 : w.heap.size < w2.heap.size := (by have hzz := hb_w2.size; (try simp only [World.size_alloc, World.size_setCell, World.size_drew, World.heap_drewN] at hzz); omega); have hs_w2 := hb_w2.size; (try simp only [World.size_alloc, World.size_setCell, World.size_drew, World.heap_drewN] at hs_w2); have k2 : w2.cell? ⟨B, 0, none⟩ = some (.int .u64 (a : Nat)) := (hb_w2.cell (p := ⟨B, 0, none⟩) (by first | omega | (simp; omega) | simp)).trans (by first | exact k0 | assumption); have m0 : w2.cell? ⟨w.heap.size, 0, none⟩ = some (.int .i64 f) := (hb_w2.cell (p := ⟨w.heap.size, 0, none⟩) (by first | omega | (simp; omega) | simp)).trans (by first | assumption | (simp [go_sem]; done)); have m1 : w2.cell? ⟨w.heap.size, 1, none⟩ = some (.int .i64 p) := (hb_w2.cell (p := ⟨w.heap.size, 1, none⟩) (by first | omega | (simp; omega) | simp)).trans (by first | assumption | (simp [go_sem]; done)); have m2 : w2.cell? ⟨w.heap.size, 2, none⟩ = some (.int .i64 z) := (hb_w2.cell (p := ⟨w.heap.size, 2, none⟩) (by first | omega | (simp; omega) | simp)).trans (by first | assumption | (simp [go_sem]; done)); have m3 : w2.cell? ⟨w.heap.size, 3, none⟩ = some (.int .i64 an) := (hb_w2.cell (p := ⟨w.heap.size, 3, none⟩) (by first | omega | (simp; omega) | simp)).trans (by first | assumption | (simp [go_sem]; done)); have m4 : w2.cell? ⟨w.heap.size, 4, none⟩ = some (.slice A aw.length ca) := (hb_w2.cell (p := ⟨w.heap.size, 4, none⟩) (by first | omega | (simp; omega) | simp)).trans (by first | assumption | (simp [go_sem]; done)); have m5 : w2.cell? ⟨w.heap.size, 5, none⟩ = some (.int .i64 mn) := (hb_w2.cell (p := ⟨w.heap.size, 5, none⟩) (by first | omega | (simp; omega) | simp)).trans (by first | assumption | (simp [go_sem]; done)); have m6 : w2.cell? ⟨w.heap.size, 6, none⟩ = some (.slice M mw.length cm) := (hb_w2.cell (p := ⟨w.heap.size, 6, none⟩) (by first | omega | (simp; omega) | simp)).trans (by first | assumption | (simp [go_sem]; done)); have m7 : w2.cell? ⟨w.heap.size, 7, none⟩ = some (.bool s) := (hb_w2.cell (p := ⟨w.heap.size, 7, none⟩) (by first | omega | (simp; omega) | simp)).trans (by first | assumption | (simp [go_sem]; done)))))
    all_goals
      go_wp2
      go_ret
      exact ⟨rfl, (by repeat (first | exact Below.refl _ _ | assumption | (refine below_drewN ?_ _) | (refine Below.drew ?_) | (refine Below.alloc ?_ (by first | omega | (simp; omega) | simp) _) | (refine Below.setCell ?_ (by first | omega | (simp; omega) | simp) _) | (refine below_trans ?_ (by assumption) (by first | omega | (simp; omega) | simp))))⟩
  · have d1 : decide (f * 16 ≤ (a : Int)) = false := decide_eq_false h1
    rw [show decide (f * 16 ≤ (a : Int) ∧ (a : Int) < (f + p) * 16) = false from decide_eq_false fun h => h1 h.1]
    go_enter Try.func48, Try.ntmps48
    go_wp2_with fail
    go_region_with (go_at_call 49; refine (spage_any f (by omega) (by omega)).mono ?_; rintro e w1 ⟨rfl, rfl⟩)
    all_goals
      go_wp2
      go_ret
      exact ⟨rfl, (by repeat (first | exact Below.refl _ _ | assumption | (refine below_drewN ?_ _) | (refine Below.drew ?_) | (refine Below.alloc ?_ (by first | omega | (simp; omega) | simp) _) | (refine Below.setCell ?_ (by first | omega | (simp; omega) | simp) _) | (refine below_trans ?_ (by assumption) (by first | omega | (simp; omega) | simp))))⟩
end
end Go.Proofs.Ythphefoohkofbaa

/- Contracts of package span: the slot with an address. -/
namespace Go.Proofs.Ythphefoohkofbaa
open Go.RowKit
set_option linter.unusedVariables false
set_option linter.unusedSimpArgs false

section
variable {w : World} {d : Sd} {A M : Option Addr} (ca cm : Nat)
set_option maxHeartbeats 2000000 in
theorem sfind2_yes (a b off i n cap Bl Bt Ba k : Nat) (h : Ok1 d) (hA : Row w w.heap.size A d.aw) (hl : w.cell? ⟨Bl, 0, none⟩ = some (.slice (some ⟨b, off, none⟩) n cap)) (ht : w.cell? ⟨Bt, 0, none⟩ = some (.int .i64 (i : Nat)))
    (ha : w.cell? ⟨Ba, 0, none⟩ = some (.int .u64 (a : Nat))) (hi : i < n) (hn : n ≤ 256) (c8 : Sp8 w b (off + i * 8) d A ca M cm) (hk : (k : Int) < slotsOf d.z) (h1 : d.f * 16 + (k : Int) * d.z = (a : Int)) :
    Calls Try.prog 51 #[.int .i64 (k : Nat), .pointer (some ⟨Bl, 0, none⟩), .pointer (some ⟨Bt, 0, none⟩), .pointer (some ⟨Ba, 0, none⟩)] w fun e w' => e = .returned (.bool (isAt a d k)) ∧ Below w.heap.size w w' := by
  have hp := h.placed
  unfold Placed at hp
  have hs := h.sized.slots
  obtain ⟨q0, q1⟩ := h.sized.room k (by omega) hk
  have zl := World.block_lt_of_cell? w _ hl
  have zt := World.block_lt_of_cell? w _ ht
  have za := World.block_lt_of_cell? w _ ha
  have zb := c8.lt
  simp only at zl zt za
  have D := Lib.hid fun (w : World) => saddress_any (w := w) d A ca M cm (k : Nat) hp.1 (by omega) (by omega) (by omega) (by omega) ((k : Int) * d.z) rfl q0 (by omega)
  have G := Lib.hid fun (w : World) hA => salloc_any (w := w) (d := d) (A := A) (M := M) ca cm hA h.a (k : Nat) (by omega) (by rw [h.an]; exact hk)
  have hbt : Hid (((k : Int)).toNat = k) := Lib.hid (Int.toNat_natCast k)
  rw [hbt.out] at G
  obtain ⟨c0, c1, c2, c3, c4, c5, c6, c7⟩ := c8
  have hi0 : (0 : Int) ≤ (i : Int) := by omega
  have hi1 : (i : Int) < (n : Int) := by omega
  clear h hp hk hs
  unfold isAt
  obtain ⟨f, p, z, an, aw, mn, mw, s⟩ := d
  simp only at *
  generalize (k : Int) * z = m at *
  unfold spv at D G
  simp only at D G
  have d1 : (f * 16 + m == (a : Int)) = true := by simpa using h1
  rw [decide_eq_true h1, Bool.true_and]
  clear h1
  go_enter Try.func51, Try.ntmps51
  go_wp2_with fail
  go_region_held3 (fun X : World => X.cell? ⟨Bl, 0, none⟩ = some (.slice (some ⟨b, off, none⟩) n cap) ∧ X.cell? ⟨Bt, 0, none⟩ = some (.int .i64 (i : Nat)) ∧ X.cell? ⟨Ba, 0, none⟩ = some (.int .u64 (a : Nat)) ∧ X.cell? ⟨b, off + i * 8, none⟩ = some (.int .i64 f) ∧ X.cell? ⟨b, off + i * 8 + 1, none⟩ = some (.int .i64 p) ∧ X.cell? ⟨b, off + i * 8 + 2, none⟩ = some (.int .i64 z) ∧ X.cell? ⟨b, off + i * 8 + 3, none⟩ = some (.int .i64 an) ∧ X.cell? ⟨b, off + i * 8 + 4, none⟩ = some (.slice A aw.length ca) ∧ X.cell? ⟨b, off + i * 8 + 5, none⟩ = some (.int .i64 mn) ∧ X.cell? ⟨b, off + i * 8 + 6, none⟩ = some (.slice M mw.length cm) ∧ X.cell? ⟨b, off + i * 8 + 7, none⟩ = some (.bool s))
    ((refine ⟨?_, ?_, ?_, ?_, ?_, ?_, ?_, ?_, ?_, ?_, ?_⟩ <;> first | assumption | (simp [go_sem]; done)))
    ((first
      | (go_at_call 41; refine (D.out _).mono ?_; rintro e w1 ⟨rfl, hb_w1⟩; have hs1 := hb_w1.size; (try simp only [World.size_drew, World.heap_drewN, World.size_alloc] at hs1); have mw10 : w1.cell? ⟨Bl, 0, none⟩ = some (.slice (some ⟨b, off, none⟩) n cap) := (hb_w1.cell (p := ⟨Bl, 0, none⟩) (by first | omega | (simp; omega) | simp)).trans (by first | assumption | (simp [go_sem]; done)); have mw11 : w1.cell? ⟨Bt, 0, none⟩ = some (.int .i64 (i : Nat)) := (hb_w1.cell (p := ⟨Bt, 0, none⟩) (by first | omega | (simp; omega) | simp)).trans (by first | assumption | (simp [go_sem]; done)); have mw12 : w1.cell? ⟨Ba, 0, none⟩ = some (.int .u64 (a : Nat)) := (hb_w1.cell (p := ⟨Ba, 0, none⟩) (by first | omega | (simp; omega) | simp)).trans (by first | assumption | (simp [go_sem]; done)); have mw13 : w1.cell? ⟨b, off + i * 8, none⟩ = some (.int .i64 f) := (hb_w1.cell (p := ⟨b, off + i * 8, none⟩) (by first | omega | (simp; omega) | simp)).trans (by first | assumption | (simp [go_sem]; done)); have mw14 : w1.cell? ⟨b, off + i * 8 + 1, none⟩ = some (.int .i64 p) := (hb_w1.cell (p := ⟨b, off + i * 8 + 1, none⟩) (by first | omega | (simp; omega) | simp)).trans (by first | assumption | (simp [go_sem]; done)); have mw15 : w1.cell? ⟨b, off + i * 8 + 2, none⟩ = some (.int .i64 z) := (hb_w1.cell (p := ⟨b, off + i * 8 + 2, none⟩) (by first | omega | (simp; omega) | simp)).trans (by first | assumption | (simp [go_sem]; done)); have mw16 : w1.cell? ⟨b, off + i * 8 + 3, none⟩ = some (.int .i64 an) := (hb_w1.cell (p := ⟨b, off + i * 8 + 3, none⟩) (by first | omega | (simp; omega) | simp)).trans (by first | assumption | (simp [go_sem]; done)); have mw17 : w1.cell? ⟨b, off + i * 8 + 4, none⟩ = some (.slice A aw.length ca) := (hb_w1.cell (p := ⟨b, off + i * 8 + 4, none⟩) (by first | omega | (simp; omega) | simp)).trans (by first | assumption | (simp [go_sem]; done)); have mw18 : w1.cell? ⟨b, off + i * 8 + 5, none⟩ = some (.int .i64 mn) := (hb_w1.cell (p := ⟨b, off + i * 8 + 5, none⟩) (by first | omega | (simp; omega) | simp)).trans (by first | assumption | (simp [go_sem]; done)); have mw19 : w1.cell? ⟨b, off + i * 8 + 6, none⟩ = some (.slice M mw.length cm) := (hb_w1.cell (p := ⟨b, off + i * 8 + 6, none⟩) (by first | omega | (simp; omega) | simp)).trans (by first | assumption | (simp [go_sem]; done)); have mw110 : w1.cell? ⟨b, off + i * 8 + 7, none⟩ = some (.bool s) := (hb_w1.cell (p := ⟨b, off + i * 8 + 7, none⟩) (by first | omega | (simp; omega) | simp)).trans (by first | assumption | (simp [go_sem]; done)))
      | (go_at_call 52; refine (G.out _ (hA.later (by repeat (first | exact Below.refl _ _ | assumption | (refine below_drewN ?_ _) | (refine Below.drew ?_) | (refine Below.alloc ?_ (by first | omega | (simp; omega) | simp) _) | (refine Below.setCell ?_ (by first | omega | (simp; omega) | simp) _) | (refine below_trans ?_ (by assumption) (by first | omega | (simp; omega) | simp)))))).mono ?_; rintro e w2 ⟨rfl, hb_w2⟩; have mw20 : w2.cell? ⟨Bl, 0, none⟩ = some (.slice (some ⟨b, off, none⟩) n cap) := (hb_w2.cell (p := ⟨Bl, 0, none⟩) (by first | omega | (simp; omega) | simp)).trans (by first | assumption | (simp [go_sem]; done)); have mw21 : w2.cell? ⟨Bt, 0, none⟩ = some (.int .i64 (i : Nat)) := (hb_w2.cell (p := ⟨Bt, 0, none⟩) (by first | omega | (simp; omega) | simp)).trans (by first | assumption | (simp [go_sem]; done)); have mw22 : w2.cell? ⟨Ba, 0, none⟩ = some (.int .u64 (a : Nat)) := (hb_w2.cell (p := ⟨Ba, 0, none⟩) (by first | omega | (simp; omega) | simp)).trans (by first | assumption | (simp [go_sem]; done)); have mw23 : w2.cell? ⟨b, off + i * 8, none⟩ = some (.int .i64 f) := (hb_w2.cell (p := ⟨b, off + i * 8, none⟩) (by first | omega | (simp; omega) | simp)).trans (by first | assumption | (simp [go_sem]; done)); have mw24 : w2.cell? ⟨b, off + i * 8 + 1, none⟩ = some (.int .i64 p) := (hb_w2.cell (p := ⟨b, off + i * 8 + 1, none⟩) (by first | omega | (simp; omega) | simp)).trans (by first | assumption | (simp [go_sem]; done)); have mw25 : w2.cell? ⟨b, off + i * 8 + 2, none⟩ = some (.int .i64 z) := (hb_w2.cell (p := ⟨b, off + i * 8 + 2, none⟩) (by first | omega | (simp; omega) | simp)).trans (by first | assumption | (simp [go_sem]; done)); have mw26 : w2.cell? ⟨b, off + i * 8 + 3, none⟩ = some (.int .i64 an) := (hb_w2.cell (p := ⟨b, off + i * 8 + 3, none⟩) (by first | omega | (simp; omega) | simp)).trans (by first | assumption | (simp [go_sem]; done)); have mw27 : w2.cell? ⟨b, off + i * 8 + 4, none⟩ = some (.slice A aw.length ca) := (hb_w2.cell (p := ⟨b, off + i * 8 + 4, none⟩) (by first | omega | (simp; omega) | simp)).trans (by first | assumption | (simp [go_sem]; done)); have mw28 : w2.cell? ⟨b, off + i * 8 + 5, none⟩ = some (.int .i64 mn) := (hb_w2.cell (p := ⟨b, off + i * 8 + 5, none⟩) (by first | omega | (simp; omega) | simp)).trans (by first | assumption | (simp [go_sem]; done)); have mw29 : w2.cell? ⟨b, off + i * 8 + 6, none⟩ = some (.slice M mw.length cm) := (hb_w2.cell (p := ⟨b, off + i * 8 + 6, none⟩) (by first | omega | (simp; omega) | simp)).trans (by first | assumption | (simp [go_sem]; done)); have mw210 : w2.cell? ⟨b, off + i * 8 + 7, none⟩ = some (.bool s) := (hb_w2.cell (p := ⟨b, off + i * 8 + 7, none⟩) (by first | omega | (simp; omega) | simp)).trans (by first | assumption | (simp [go_sem]; done)))))
  all_goals
    go_wp2
    go_ret
    exact ⟨rfl, (by repeat (first | exact Below.refl _ _ | assumption | (refine below_drewN ?_ _) | (refine Below.drew ?_) | (refine Below.alloc ?_ (by first | omega | (simp; omega) | simp) _) | (refine Below.setCell ?_ (by first | omega | (simp; omega) | simp) _) | (refine below_trans ?_ (by assumption) (by first | omega | (simp; omega) | simp))))⟩
end
end Go.Proofs.Ythphefoohkofbaa

/- Contracts of package span: the slot with an address. -/
namespace Go.Proofs.Ythphefoohkofbaa
open Go.RowKit
set_option linter.unusedVariables false
set_option linter.unusedSimpArgs false

section
variable {w : World} {d : Sd} {A M : Option Addr} (ca cm : Nat)
set_option maxHeartbeats 2000000 in
theorem sfind2_no (a b off i n cap Bl Bt Ba k : Nat) (h : Ok1 d) (hA : Row w w.heap.size A d.aw) (hl : w.cell? ⟨Bl, 0, none⟩ = some (.slice (some ⟨b, off, none⟩) n cap)) (ht : w.cell? ⟨Bt, 0, none⟩ = some (.int .i64 (i : Nat)))
    (ha : w.cell? ⟨Ba, 0, none⟩ = some (.int .u64 (a : Nat))) (hi : i < n) (hn : n ≤ 256) (c8 : Sp8 w b (off + i * 8) d A ca M cm) (hk : (k : Int) < slotsOf d.z) (h1 : ¬ d.f * 16 + (k : Int) * d.z = (a : Int)) :
    Calls Try.prog 51 #[.int .i64 (k : Nat), .pointer (some ⟨Bl, 0, none⟩), .pointer (some ⟨Bt, 0, none⟩), .pointer (some ⟨Ba, 0, none⟩)] w fun e w' => e = .returned (.bool (isAt a d k)) ∧ Below w.heap.size w w' := by
  have hp := h.placed
  unfold Placed at hp
  have hs := h.sized.slots
  obtain ⟨q0, q1⟩ := h.sized.room k (by omega) hk
  have zl := World.block_lt_of_cell? w _ hl
  have zt := World.block_lt_of_cell? w _ ht
  have za := World.block_lt_of_cell? w _ ha
  have zb := c8.lt
  simp only at zl zt za
  have D := Lib.hid fun (w : World) => saddress_any (w := w) d A ca M cm (k : Nat) hp.1 (by omega) (by omega) (by omega) (by omega) ((k : Int) * d.z) rfl q0 (by omega)
  have G := Lib.hid fun (w : World) hA => salloc_any (w := w) (d := d) (A := A) (M := M) ca cm hA h.a (k : Nat) (by omega) (by rw [h.an]; exact hk)
  have hbt : Hid (((k : Int)).toNat = k) := Lib.hid (Int.toNat_natCast k)
  rw [hbt.out] at G
  obtain ⟨c0, c1, c2, c3, c4, c5, c6, c7⟩ := c8
  have hi0 : (0 : Int) ≤ (i : Int) := by omega
  have hi1 : (i : Int) < (n : Int) := by omega
  clear h hp hk hs
  unfold isAt
  obtain ⟨f, p, z, an, aw, mn, mw, s⟩ := d
  simp only at *
  generalize (k : Int) * z = m at *
  unfold spv at D G
  simp only at D G
  have d1 : (f * 16 + m == (a : Int)) = false := by simpa using h1
  rw [decide_eq_false h1, Bool.false_and]
  clear h1
  go_enter Try.func51, Try.ntmps51
  go_wp2_with fail
  refine wp_region_held_drew (S := (fun X : World => X.cell? ⟨Bl, 0, none⟩ = some (.slice (some ⟨b, off, none⟩) n cap) ∧ X.cell? ⟨Bt, 0, none⟩ = some (.int .i64 (i : Nat)) ∧ X.cell? ⟨Ba, 0, none⟩ = some (.int .u64 (a : Nat)) ∧ X.cell? ⟨b, off + i * 8, none⟩ = some (.int .i64 f) ∧ X.cell? ⟨b, off + i * 8 + 1, none⟩ = some (.int .i64 p) ∧ X.cell? ⟨b, off + i * 8 + 2, none⟩ = some (.int .i64 z) ∧ X.cell? ⟨b, off + i * 8 + 3, none⟩ = some (.int .i64 an) ∧ X.cell? ⟨b, off + i * 8 + 4, none⟩ = some (.slice A aw.length ca) ∧ X.cell? ⟨b, off + i * 8 + 5, none⟩ = some (.int .i64 mn) ∧ X.cell? ⟨b, off + i * 8 + 6, none⟩ = some (.slice M mw.length cm) ∧ X.cell? ⟨b, off + i * 8 + 7, none⟩ = some (.bool s))) (by kernel_rfl) ?_ (fun hHeld => ?_)
  · (try dsimp only); refine ⟨?_, ?_, ?_, ?_, ?_, ?_, ?_, ?_, ?_, ?_, ?_⟩ <;> first | assumption | (simp [go_sem]; done)
  refine wpAnyH_take (i := 0) (v := ?_) rfl (by kernel_rfl) (by kernel_rfl) (by kernel_rfl) (fun _ _ _ h => h) (Or.inl ⟨by rfl, ?_⟩) (by assumption) ?_
  rotate_left
  · (intro w hSw; (try dsimp only at hSw); go_simp; first | done | with_reducible rfl)
  try simp only [Act.put, List.setIfInBounds_toArray, List.set_cons_zero, List.set_cons_succ]
  refine wpAnyH_take (i := 1) (v := ?_) rfl (by kernel_rfl) (by kernel_rfl) (by kernel_rfl) (fun _ _ _ h => h) (Or.inl ⟨by rfl, ?_⟩) (by assumption) ?_
  rotate_left
  · (intro w hSw; (try dsimp only at hSw); go_simp; first | done | with_reducible rfl)
  try simp only [Act.put, List.setIfInBounds_toArray, List.set_cons_zero, List.set_cons_succ]
  refine wpAnyH_take (i := 2) (v := ?_) rfl (by kernel_rfl) (by kernel_rfl) (by kernel_rfl) (fun _ _ _ h => h) (Or.inl ⟨by rfl, ?_⟩) (by assumption) ?_
  rotate_left
  · (intro w hSw; (try dsimp only at hSw); go_simp; first | done | with_reducible rfl)
  try simp only [Act.put, List.setIfInBounds_toArray, List.set_cons_zero, List.set_cons_succ]
  refine wpAnyH_take (i := 3) (v := ?_) rfl (by kernel_rfl) (by kernel_rfl) (by kernel_rfl) (fun _ _ _ h => h) (Or.inl ⟨by rfl, ?_⟩) (by assumption) ?_
  rotate_left
  · (intro w hSw; (try dsimp only at hSw); go_simp; first | done | with_reducible rfl)
  try simp only [Act.put, List.setIfInBounds_toArray, List.set_cons_zero, List.set_cons_succ]
  refine wpAnyH_take (i := 4) (v := ?_) rfl (by kernel_rfl) (by kernel_rfl) (by kernel_rfl) (fun _ _ _ h => h) (Or.inl ⟨by rfl, ?_⟩) (by assumption) ?_
  rotate_left
  · (intro w hSw; (try dsimp only at hSw); go_simp; first | done | with_reducible rfl)
  try simp only [Act.put, List.setIfInBounds_toArray, List.set_cons_zero, List.set_cons_succ]
  refine wpAnyH_take (i := 6) (v := ?_) rfl (by kernel_rfl) (by kernel_rfl) (by kernel_rfl) (fun _ _ _ h => h) (Or.inl ⟨by rfl, ?_⟩) (by assumption) ?_
  rotate_left
  · (intro w hSw; (try dsimp only at hSw); go_simp; first | done | with_reducible rfl)
  try simp only [Act.put, List.setIfInBounds_toArray, List.set_cons_zero, List.set_cons_succ]
  refine wpAnyH_ready (rs := [5]) (by kernel_rfl) (by simp) ?_
  refine AllReadyH.cons rfl (fun K hK => ?_) AllReadyH.nil
  go_simp
  refine (D.out _).mono ?_
  rintro e w1 ⟨rfl, hb_w1⟩
  have mw10 : w1.cell? ⟨Bl, 0, none⟩ = some (.slice (some ⟨b, off, none⟩) n cap) := (hb_w1.cell (p := ⟨Bl, 0, none⟩) (by first | omega | (simp; omega) | simp)).trans (by first | assumption | (simp [go_sem]; done))
  have mw11 : w1.cell? ⟨Bt, 0, none⟩ = some (.int .i64 (i : Nat)) := (hb_w1.cell (p := ⟨Bt, 0, none⟩) (by first | omega | (simp; omega) | simp)).trans (by first | assumption | (simp [go_sem]; done))
  have mw12 : w1.cell? ⟨Ba, 0, none⟩ = some (.int .u64 (a : Nat)) := (hb_w1.cell (p := ⟨Ba, 0, none⟩) (by first | omega | (simp; omega) | simp)).trans (by first | assumption | (simp [go_sem]; done))
  have mw13 : w1.cell? ⟨b, off + i * 8, none⟩ = some (.int .i64 f) := (hb_w1.cell (p := ⟨b, off + i * 8, none⟩) (by first | omega | (simp; omega) | simp)).trans (by first | assumption | (simp [go_sem]; done))
  have mw14 : w1.cell? ⟨b, off + i * 8 + 1, none⟩ = some (.int .i64 p) := (hb_w1.cell (p := ⟨b, off + i * 8 + 1, none⟩) (by first | omega | (simp; omega) | simp)).trans (by first | assumption | (simp [go_sem]; done))
  have mw15 : w1.cell? ⟨b, off + i * 8 + 2, none⟩ = some (.int .i64 z) := (hb_w1.cell (p := ⟨b, off + i * 8 + 2, none⟩) (by first | omega | (simp; omega) | simp)).trans (by first | assumption | (simp [go_sem]; done))
  have mw16 : w1.cell? ⟨b, off + i * 8 + 3, none⟩ = some (.int .i64 an) := (hb_w1.cell (p := ⟨b, off + i * 8 + 3, none⟩) (by first | omega | (simp; omega) | simp)).trans (by first | assumption | (simp [go_sem]; done))
  have mw17 : w1.cell? ⟨b, off + i * 8 + 4, none⟩ = some (.slice A aw.length ca) := (hb_w1.cell (p := ⟨b, off + i * 8 + 4, none⟩) (by first | omega | (simp; omega) | simp)).trans (by first | assumption | (simp [go_sem]; done))
  have mw18 : w1.cell? ⟨b, off + i * 8 + 5, none⟩ = some (.int .i64 mn) := (hb_w1.cell (p := ⟨b, off + i * 8 + 5, none⟩) (by first | omega | (simp; omega) | simp)).trans (by first | assumption | (simp [go_sem]; done))
  have mw19 : w1.cell? ⟨b, off + i * 8 + 6, none⟩ = some (.slice M mw.length cm) := (hb_w1.cell (p := ⟨b, off + i * 8 + 6, none⟩) (by first | omega | (simp; omega) | simp)).trans (by first | assumption | (simp [go_sem]; done))
  have mw110 : w1.cell? ⟨b, off + i * 8 + 7, none⟩ = some (.bool s) := (hb_w1.cell (p := ⟨b, off + i * 8 + 7, none⟩) (by first | omega | (simp; omega) | simp)).trans (by first | assumption | (simp [go_sem]; done))
  try go_wp2_with fail
  refine hK.out _ _ ?_ (fun hHeld => ?_)
  · (try dsimp only); refine ⟨?_, ?_, ?_, ?_, ?_, ?_, ?_, ?_, ?_, ?_, ?_⟩ <;> first | assumption | (simp [go_sem]; done)
  clear hK K
  try simp only [Act.put, List.setIfInBounds_toArray, List.set_cons_zero, List.set_cons_succ]
  refine wpAnyH_take (i := 7) (v := ?_) rfl (by kernel_rfl) (by kernel_rfl) (by kernel_rfl) (fun _ _ _ h => h) (Or.inl ⟨by rfl, ?_⟩) (by assumption) ?_
  rotate_left
  · (intro w hSw; (try dsimp only at hSw); go_simp; first | done | with_reducible rfl)
  try simp only [Act.put, List.setIfInBounds_toArray, List.set_cons_zero, List.set_cons_succ]
  refine wpAnyH_take (i := 8) (v := ?_) rfl (by kernel_rfl) (by kernel_rfl) (by kernel_rfl) (fun _ _ _ h => h) (Or.inl ⟨by rfl, ?_⟩) (by assumption) ?_
  rotate_left
  · (intro w hSw; (try dsimp only at hSw); go_simp; first | done | with_reducible rfl)
  try simp only [Act.put, List.setIfInBounds_toArray, List.set_cons_zero, List.set_cons_succ]
  refine wpAnyH_take (i := 9) (v := undef) rfl (by kernel_rfl) (by kernel_rfl) (by kernel_rfl) (fun _ _ _ h => h) (Or.inr ⟨by rfl, rfl⟩) (by assumption) ?_
  try simp only [Act.put, List.setIfInBounds_toArray, List.set_cons_zero, List.set_cons_succ]
  refine wpAnyH_take (i := 10) (v := undef) rfl (by kernel_rfl) (by kernel_rfl) (by kernel_rfl) (fun _ _ _ h => h) (Or.inr ⟨by rfl, rfl⟩) (by assumption) ?_
  try simp only [Act.put, List.setIfInBounds_toArray, List.set_cons_zero, List.set_cons_succ]
  refine wpAnyH_take (i := 11) (v := undef) rfl (by kernel_rfl) (by kernel_rfl) (by kernel_rfl) (fun _ _ _ h => h) (Or.inr ⟨by rfl, rfl⟩) (by assumption) ?_
  try simp only [Act.put, List.setIfInBounds_toArray, List.set_cons_zero, List.set_cons_succ]
  refine wpAnyH_take (i := 12) (v := undef) rfl (by kernel_rfl) (by kernel_rfl) (by kernel_rfl) (fun _ _ _ h => h) (Or.inr ⟨by rfl, rfl⟩) (by assumption) ?_
  try simp only [Act.put, List.setIfInBounds_toArray, List.set_cons_zero, List.set_cons_succ]
  refine wpAnyH_take (i := 13) (v := undef) rfl (by kernel_rfl) (by kernel_rfl) (by kernel_rfl) (fun _ _ _ h => h) (Or.inr ⟨by rfl, rfl⟩) (by assumption) ?_
  try simp only [Act.put, List.setIfInBounds_toArray, List.set_cons_zero, List.set_cons_succ]
  refine wpAnyH_ready (rs := [14]) (by kernel_rfl) (by simp) ?_
  refine AllReadyH.cons rfl (fun K hK => ?_) AllReadyH.nil
  go_simp
  refine hK.out _ _ ?_ (fun hHeld => ?_)
  · (try dsimp only); refine ⟨?_, ?_, ?_, ?_, ?_, ?_, ?_, ?_, ?_, ?_, ?_⟩ <;> first | assumption | (simp [go_sem]; done)
  clear hK K
  try simp only [Act.put, List.setIfInBounds_toArray, List.set_cons_zero, List.set_cons_succ]
  refine wpAnyH_take (i := 15) (v := ?_) rfl (by kernel_rfl) (by kernel_rfl) (by kernel_rfl) (fun _ _ _ h => h) (Or.inl ⟨by rfl, ?_⟩) (by assumption) ?_
  rotate_left
  · (intro w hSw; (try dsimp only at hSw); go_simp; first | done | with_reducible rfl)
  try simp only [Act.put, List.setIfInBounds_toArray, List.set_cons_zero, List.set_cons_succ]
  refine wpAnyH_ready (rs := [16]) (by kernel_rfl) (by simp) ?_
  refine AllReadyH.cons rfl (fun K hK => ?_) AllReadyH.nil
  go_simp
  refine hK.out _ _ ?_ (fun hHeld => ?_)
  · (try dsimp only); refine ⟨?_, ?_, ?_, ?_, ?_, ?_, ?_, ?_, ?_, ?_, ?_⟩ <;> first | assumption | (simp [go_sem]; done)
  clear hK K
  try simp only [Act.put, List.setIfInBounds_toArray, List.set_cons_zero, List.set_cons_succ]
  refine wpAnyH_done (by kernel_rfl) ?_ _
  go_wp2
  go_ret
  exact ⟨rfl, (by repeat (first | exact Below.refl _ _ | assumption | (refine below_drewN ?_ _) | (refine Below.drew ?_) | (refine Below.alloc ?_ (by first | omega | (simp; omega) | simp) _) | (refine Below.setCell ?_ (by first | omega | (simp; omega) | simp) _) | (refine below_trans ?_ (by assumption) (by first | omega | (simp; omega) | simp))))⟩
end
end Go.Proofs.Ythphefoohkofbaa

/- Contracts of package span: Find. -/
namespace Go.Proofs.Ythphefoohkofbaa
open Go.RowKit
set_option linter.unusedVariables false
set_option linter.unusedSimpArgs false

theorem sfind2_any {w : World} {d : Sd} {A M : Option Addr} (ca cm : Nat) (a b off i n cap Bl Bt Ba k : Nat) (h : Ok1 d) (hA : Row w w.heap.size A d.aw) (hl : w.cell? ⟨Bl, 0, none⟩ = some (.slice (some ⟨b, off, none⟩) n cap)) (ht : w.cell? ⟨Bt, 0, none⟩ = some (.int .i64 (i : Nat)))
    (ha : w.cell? ⟨Ba, 0, none⟩ = some (.int .u64 (a : Nat))) (hi : i < n) (hn : n ≤ 256) (c8 : Sp8 w b (off + i * 8) d A ca M cm) (hk : (k : Int) < slotsOf d.z) :
    Calls Try.prog 51 #[.int .i64 (k : Nat), .pointer (some ⟨Bl, 0, none⟩), .pointer (some ⟨Bt, 0, none⟩), .pointer (some ⟨Ba, 0, none⟩)] w fun e w' => e = .returned (.bool (isAt a d k)) ∧ Below w.heap.size w w' := by
  by_cases h1 : d.f * 16 + (k : Int) * d.z = (a : Int)
  · exact sfind2_yes ca cm a b off i n cap Bl Bt Ba k h hA hl ht ha hi hn c8 hk h1
  · exact sfind2_no ca cm a b off i n cap Bl Bt Ba k h hA hl ht ha hi hn c8 hk h1
theorem eg_find1 : ∀ args w, (callFunc 48 args).run Try.prog w = .ok (.enter 48 args) w := enters_of Try.func48 (by kernel_rfl) rfl
theorem eg_find2 : ∀ args w, (callFunc 51 args).run Try.prog w = .ok (.enter 51 args) w := enters_of Try.func51 (by kernel_rfl) rfl
theorem says_find2 {w : World} {d : Sd} {A M : Option Addr} (ca cm : Nat) (a b off i n cap Bl Bt Ba : Nat) (h : Ok1 d) (hA : Row w w.heap.size A d.aw) (hl : w.cell? ⟨Bl, 0, none⟩ = some (.slice (some ⟨b, off, none⟩) n cap)) (ht : w.cell? ⟨Bt, 0, none⟩ = some (.int .i64 (i : Nat)))
    (ha : w.cell? ⟨Ba, 0, none⟩ = some (.int .u64 (a : Nat))) (hi : i < n) (hn : n ≤ 256) (c8 : Sp8 w b (off + i * 8) d A ca M cm) :
    SaysN 51 #[.pointer (some ⟨Bl, 0, none⟩), .pointer (some ⟨Bt, 0, none⟩), .pointer (some ⟨Ba, 0, none⟩)] (slotsOf d.z).toNat (isAt a d) w :=
  fun W k hb hk => sfind2_any ca cm a b off i n cap Bl Bt Ba k h (hA.later hb) ((hb.cell (p := ⟨Bl, 0, none⟩) (World.block_lt_of_cell? w _ hl)).trans hl) ((hb.cell (p := ⟨Bt, 0, none⟩) (World.block_lt_of_cell? w _ ht)).trans ht) ((hb.cell (p := ⟨Ba, 0, none⟩) (World.block_lt_of_cell? w _ ha)).trans ha) hi hn (c8.later hb) (by have := h.sized.slots; omega)
/-- where an address leads -/
def FindE (l : List Sd) (a : Nat) (x k y : Int) : Prop := (¬ OkL l ∧ x = 0 ∧ k = 0 ∧ y = 2) ∨ (OkL l ∧ IdxE l (inP a) (-1) ∧ x = 0 ∧ k = 0 ∧ y = 3) ∨
  (∃ i : Nat, OkL l ∧ IdxE l (inP a) i ∧ ((IdxN (slotsOf (nth l i).z).toNat (isAt a (nth l i)) (-1) ∧ x = 0 ∧ k = 0 ∧ y = 10) ∨ (∃ j : Nat, IdxN (slotsOf (nth l i).z).toNat (isAt a (nth l i)) j ∧ x = i ∧ k = j ∧ y = 0)))
section
variable {w : World} {A : Option Addr} {l : List Sd} (cap : Nat)
theorem says_find1 (a B : Nat) (hok : OkL l) (hB : w.cell? ⟨B, 0, none⟩ = some (.int .u64 (a : Nat))) : Says 48 #[.pointer (some ⟨B, 0, none⟩)] l (inP a) w :=
  fun W i A M ca cm hb hi hA hM => sfind1_any ca cm a B (hok.2.1 i hi) ((hb.cell (p := ⟨B, 0, none⟩) (World.block_lt_of_cell? w _ hB)).trans hB)
set_option maxHeartbeats 2000000 in
theorem sfind_any (hr : SRow w w.heap.size A l) (hl : l.length ≤ 17592186044416) (a : Nat) (x k y : Int) (hF : FindE l a x k y) :
    Calls Try.prog 21 #[.slice A l.length cap, .int .u64 (a : Nat)] w fun e w' => e = .returned (.tuple #[.int .i64 x, .int .i64 k, .int .i64 y]) ∧ Below w.heap.size w w' := by
  rcases hF with ⟨h, rfl, rfl, rfl⟩ | ⟨h, hI, rfl, rfl, rfl⟩ | ⟨i, h, hI, hJ⟩
  · have C := Lib.hid fun (w : World) hr => scheck_any (w := w) (A := A) (l := l) cap hr hl 2 (.inr ⟨h, rfl⟩)
    clear h
    go_enter Try.func21, Try.ntmps21
    go_wp2_with fail
    go_at_call 19
    refine (C.out _ (hr.later (by repeat (first | exact Below.refl _ _ | assumption | (refine below_drewN ?_ _) | (refine Below.drew ?_) | (refine Below.alloc ?_ (by first | omega | (simp; omega) | simp) _) | (refine Below.setCell ?_ (by first | omega | (simp; omega) | simp) _) | (refine below_trans ?_ (by assumption) (by first | omega | (simp; omega) | simp)))))).mono ?_
    rintro e w1 ⟨rfl, hb_w1⟩
    obtain ⟨hc_w1, hf_w1⟩ := bcell hb_w1; have hz_w1_w_0 : w.heap.size < w1.heap.size := (by have hzz := hb_w1.size; (try simp only [World.size_alloc, World.size_setCell, World.size_drew, World.heap_drewN] at hzz); omega); have hz_w1_w_1 : w.heap.size + 1 < w1.heap.size := (by have hzz := hb_w1.size; (try simp only [World.size_alloc, World.size_setCell, World.size_drew, World.heap_drewN] at hzz); omega); have hs_w1 := hb_w1.size; (try simp only [World.size_alloc, World.size_setCell, World.size_drew, World.heap_drewN] at hs_w1)
    go_wp2
    go_ret3
    exact ⟨rfl, (by repeat (first | exact Below.refl _ _ | assumption | (refine below_drewN ?_ _) | (refine Below.drew ?_) | (refine Below.alloc ?_ (by first | omega | (simp; omega) | simp) _) | (refine Below.setCell ?_ (by first | omega | (simp; omega) | simp) _) | (refine below_trans ?_ (by assumption) (by first | omega | (simp; omega) | simp))))⟩
  · have C := Lib.hid fun (w : World) hr => scheck_any (w := w) (A := A) (l := l) cap hr hl 0 (.inl ⟨h, rfl⟩)
    have HI := Lib.hid hI
    have HO := Lib.hid h
    clear h hI
    go_enter Try.func21, Try.ntmps21
    go_wp2_with fail
    go_at_call 19
    refine (C.out _ (hr.later (by repeat (first | exact Below.refl _ _ | assumption | (refine below_drewN ?_ _) | (refine Below.drew ?_) | (refine Below.alloc ?_ (by first | omega | (simp; omega) | simp) _) | (refine Below.setCell ?_ (by first | omega | (simp; omega) | simp) _) | (refine below_trans ?_ (by assumption) (by first | omega | (simp; omega) | simp)))))).mono ?_
    rintro e w1 ⟨rfl, hb_w1⟩
    obtain ⟨hc_w1, hf_w1⟩ := bcell hb_w1; have hz_w1_w_0 : w.heap.size < w1.heap.size := (by have hzz := hb_w1.size; (try simp only [World.size_alloc, World.size_setCell, World.size_drew, World.heap_drewN] at hzz); omega); have hz_w1_w_1 : w.heap.size + 1 < w1.heap.size := (by have hzz := hb_w1.size; (try simp only [World.size_alloc, World.size_setCell, World.size_drew, World.heap_drewN] at hzz); omega); have hs_w1 := hb_w1.size; (try simp only [World.size_alloc, World.size_setCell, World.size_drew, World.heap_drewN] at hs_w1)
    have ka : w1.cell? ⟨w.heap.size + 1, 0, none⟩ = some (.int .u64 (a : Nat)) := (hc_w1 _ _ (by first | omega | (simp; omega) | simp)).trans (by simp [go_sem])
    go_wp2_with fail
    go_at_call 47
    refine (sindex_any cap 48 _ (inP a) eg_find1 (hr.later (by repeat (first | exact Below.refl _ _ | assumption | (refine below_drewN ?_ _) | (refine Below.drew ?_) | (refine Below.alloc ?_ (by first | omega | (simp; omega) | simp) _) | (refine Below.setCell ?_ (by first | omega | (simp; omega) | simp) _) | (refine below_trans ?_ (by assumption) (by first | omega | (simp; omega) | simp))))) hl (says_find1 a _ HO.out ka) (-1) HI.out).mono ?_
    rintro e w2 ⟨rfl, hb_w2⟩
    obtain ⟨hc_w2, hf_w2⟩ := bcell hb_w2; have hz_w2_w_0 : w.heap.size < w2.heap.size := (by have hzz := hb_w2.size; (try simp only [World.size_alloc, World.size_setCell, World.size_drew, World.heap_drewN] at hzz); omega); have hz_w2_w_1 : w.heap.size + 1 < w2.heap.size := (by have hzz := hb_w2.size; (try simp only [World.size_alloc, World.size_setCell, World.size_drew, World.heap_drewN] at hzz); omega); have hs_w2 := hb_w2.size; (try simp only [World.size_alloc, World.size_setCell, World.size_drew, World.heap_drewN] at hs_w2)
    go_wp2
    go_ret3
    exact ⟨rfl, (by repeat (first | exact Below.refl _ _ | assumption | (refine below_drewN ?_ _) | (refine Below.drew ?_) | (refine Below.alloc ?_ (by first | omega | (simp; omega) | simp) _) | (refine Below.setCell ?_ (by first | omega | (simp; omega) | simp) _) | (refine below_trans ?_ (by assumption) (by first | omega | (simp; omega) | simp))))⟩
  · have C := Lib.hid fun (w : World) hr => scheck_any (w := w) (A := A) (l := l) cap hr hl 0 (.inl ⟨h, rfl⟩)
    have HI := Lib.hid hI
    have HO := Lib.hid h
    have HJ := Lib.hid hJ
    have hil : i < l.length := by
      rcases hI with ⟨h1, _⟩ | ⟨j, h1, h2, _⟩
      · omega
      · omega
    clear h hI hJ
    go_enter Try.func21, Try.ntmps21
    go_wp2_with fail
    go_at_call 19
    refine (C.out _ (hr.later (by repeat (first | exact Below.refl _ _ | assumption | (refine below_drewN ?_ _) | (refine Below.drew ?_) | (refine Below.alloc ?_ (by first | omega | (simp; omega) | simp) _) | (refine Below.setCell ?_ (by first | omega | (simp; omega) | simp) _) | (refine below_trans ?_ (by assumption) (by first | omega | (simp; omega) | simp)))))).mono ?_
    rintro e w1 ⟨rfl, hb_w1⟩
    obtain ⟨hc_w1, hf_w1⟩ := bcell hb_w1; have hz_w1_w_0 : w.heap.size < w1.heap.size := (by have hzz := hb_w1.size; (try simp only [World.size_alloc, World.size_setCell, World.size_drew, World.heap_drewN] at hzz); omega); have hz_w1_w_1 : w.heap.size + 1 < w1.heap.size := (by have hzz := hb_w1.size; (try simp only [World.size_alloc, World.size_setCell, World.size_drew, World.heap_drewN] at hzz); omega); have hs_w1 := hb_w1.size; (try simp only [World.size_alloc, World.size_setCell, World.size_drew, World.heap_drewN] at hs_w1)
    have ka : w1.cell? ⟨w.heap.size + 1, 0, none⟩ = some (.int .u64 (a : Nat)) := (hc_w1 _ _ (by first | omega | (simp; omega) | simp)).trans (by simp [go_sem])
    go_wp2_with fail
    go_at_call 47
    refine (sindex_any cap 48 _ (inP a) eg_find1 (hr.later (by repeat (first | exact Below.refl _ _ | assumption | (refine below_drewN ?_ _) | (refine Below.drew ?_) | (refine Below.alloc ?_ (by first | omega | (simp; omega) | simp) _) | (refine Below.setCell ?_ (by first | omega | (simp; omega) | simp) _) | (refine below_trans ?_ (by assumption) (by first | omega | (simp; omega) | simp))))) hl (says_find1 a _ HO.out ka) ((i : Nat)) HI.out).mono ?_
    rintro e w2 ⟨rfl, hb_w2⟩
    obtain ⟨hc_w2, hf_w2⟩ := bcell hb_w2; have hz_w2_w_0 : w.heap.size < w2.heap.size := (by have hzz := hb_w2.size; (try simp only [World.size_alloc, World.size_setCell, World.size_drew, World.heap_drewN] at hzz); omega); have hz_w2_w_1 : w.heap.size + 1 < w2.heap.size := (by have hzz := hb_w2.size; (try simp only [World.size_alloc, World.size_setCell, World.size_drew, World.heap_drewN] at hzz); omega); have hs_w2 := hb_w2.size; (try simp only [World.size_alloc, World.size_setCell, World.size_drew, World.heap_drewN] at hs_w2)
    have hr2 : SRow w2 w2.heap.size A l := hr.later (by repeat (first | exact Below.refl _ _ | assumption | (refine below_drewN ?_ _) | (refine Below.drew ?_) | (refine Below.alloc ?_ (by first | omega | (simp; omega) | simp) _) | (refine Below.setCell ?_ (by first | omega | (simp; omega) | simp) _) | (refine below_trans ?_ (by assumption) (by first | omega | (simp; omega) | simp))))
    obtain ⟨b, off, rfl, hbb, hc⟩ := hr2.at_ (by omega)
    obtain ⟨Aa, ca, Am, cm, c8, ra, rm⟩ := hc i hil
    obtain ⟨d, hd⟩ : ∃ d, Hid (nth l i = d) := ⟨_, rfl⟩
    rw [hd.out] at c8 ra rm HJ
    obtain ⟨c0, c1, c2, c3, c4, c5, c6, c7⟩ := id c8
    have hi0 : (0 : Int) ≤ (i : Int) := by omega
    have hi1 : (i : Int) < (l.length : Int) := by omega
    have hi2 : decide ((i : Int) < 0) = false := decide_eq_false (by omega)
    clear hc
    have H1 : Hid (Ok1 d) := Lib.hid (by have := HO.out.2.1 i hil; rwa [hd.out] at this)
    have hn6 := HO.out.1
    have b3 : Below w2.heap.size w2 (w2.alloc (.cells #[.int .i64 (i : Nat)] 3)) := (Below.refl _ _).alloc (Nat.le_refl _) _
    have kl : (w2.alloc (.cells #[.int .i64 (i : Nat)] 3)).cell? ⟨w.heap.size, 0, none⟩ = some (.slice (some ⟨b, off, none⟩) l.length cap) := (World.cell?_alloc_lt _ _ ⟨_, _, _⟩ (by first | omega | (simp; omega) | simp)).trans ((hc_w2 _ _ (by first | omega | (simp; omega) | simp)).trans ((hc_w1 _ _ (by first | omega | (simp; omega) | simp)).trans (by simp [go_sem])))
    have kt : (w2.alloc (.cells #[.int .i64 (i : Nat)] 3)).cell? ⟨w2.heap.size, 0, none⟩ = some (.int .i64 (i : Nat)) := by simp [go_sem]
    have kb : (w2.alloc (.cells #[.int .i64 (i : Nat)] 3)).cell? ⟨w.heap.size + 1, 0, none⟩ = some (.int .u64 (a : Nat)) := (World.cell?_alloc_lt _ _ ⟨_, _, _⟩ (by first | omega | (simp; omega) | simp)).trans ((hc_w2 _ _ (by first | omega | (simp; omega) | simp)).trans ka)
    have Q := Lib.hid (says_find2 ca cm a b off i l.length cap w.heap.size w2.heap.size (w.heap.size + 1) H1.out (ra.later b3) kl kt kb hil hn6 (c8.later b3))
    have hz : slotsOf d.z = (((slotsOf d.z).toNat : Nat) : Int) := by have := H1.out.sized.slots; omega
    have HZ := Lib.hid hz
    clear hz hn6 kl kt
    rcases HJ.out with ⟨hJ, rfl, rfl, rfl⟩ | ⟨j, hJ, rfl, rfl, rfl⟩
    · have HQ := Lib.hid hJ
      clear hJ
      go_wp2_with fail
      go_at_call 50
      refine (swhere_any ca cm H1.out.sized 51 _ _ HZ.out (isAt a d) eg_find2 Q.out (-1) HQ.out).mono ?_
      rintro e w4 ⟨rfl, hb_w4⟩
      obtain ⟨hc_w4, hf_w4⟩ := bcell hb_w4; have hz_w4_w_0 : w.heap.size < w4.heap.size := (by have hzz := hb_w4.size; (try simp only [World.size_alloc, World.size_setCell, World.size_drew, World.heap_drewN] at hzz); omega); have hz_w4_w_1 : w.heap.size + 1 < w4.heap.size := (by have hzz := hb_w4.size; (try simp only [World.size_alloc, World.size_setCell, World.size_drew, World.heap_drewN] at hzz); omega); have hz_w4_w2_0 : w2.heap.size < w4.heap.size := (by have hzz := hb_w4.size; (try simp only [World.size_alloc, World.size_setCell, World.size_drew, World.heap_drewN] at hzz); omega); have hs_w4 := hb_w4.size; (try simp only [World.size_alloc, World.size_setCell, World.size_drew, World.heap_drewN] at hs_w4)
      go_wp2
      go_ret3
      exact ⟨rfl, (by repeat (first | exact Below.refl _ _ | assumption | (refine below_drewN ?_ _) | (refine Below.drew ?_) | (refine Below.alloc ?_ (by first | omega | (simp; omega) | simp) _) | (refine Below.setCell ?_ (by first | omega | (simp; omega) | simp) _) | (refine below_trans ?_ (by assumption) (by first | omega | (simp; omega) | simp))))⟩
    · have HQ := Lib.hid hJ
      have hj0 : decide ((j : Int) < 0) = false := decide_eq_false (by omega)
      clear hJ
      go_wp2_with fail
      go_at_call 50
      refine (swhere_any ca cm H1.out.sized 51 _ _ HZ.out (isAt a d) eg_find2 Q.out (j : Nat) HQ.out).mono ?_
      rintro e w4 ⟨rfl, hb_w4⟩
      obtain ⟨hc_w4, hf_w4⟩ := bcell hb_w4; have hz_w4_w_0 : w.heap.size < w4.heap.size := (by have hzz := hb_w4.size; (try simp only [World.size_alloc, World.size_setCell, World.size_drew, World.heap_drewN] at hzz); omega); have hz_w4_w_1 : w.heap.size + 1 < w4.heap.size := (by have hzz := hb_w4.size; (try simp only [World.size_alloc, World.size_setCell, World.size_drew, World.heap_drewN] at hzz); omega); have hz_w4_w2_0 : w2.heap.size < w4.heap.size := (by have hzz := hb_w4.size; (try simp only [World.size_alloc, World.size_setCell, World.size_drew, World.heap_drewN] at hzz); omega); have hs_w4 := hb_w4.size; (try simp only [World.size_alloc, World.size_setCell, World.size_drew, World.heap_drewN] at hs_w4)
      go_wp2
      go_ret3
      exact ⟨rfl, (by repeat (first | exact Below.refl _ _ | assumption | (refine below_drewN ?_ _) | (refine Below.drew ?_) | (refine Below.alloc ?_ (by first | omega | (simp; omega) | simp) _) | (refine Below.setCell ?_ (by first | omega | (simp; omega) | simp) _) | (refine below_trans ?_ (by assumption) (by first | omega | (simp; omega) | simp))))⟩
end
end Go.Proofs.Ythphefoohkofbaa

/- Contracts of package span: the first free slot. -/
namespace Go.Proofs.Ythphefoohkofbaa
open Go.RowKit
set_option linter.unusedVariables false
set_option linter.unusedSimpArgs false

theorem eg_free1 : ∀ args w, (callFunc 67 args).run Try.prog w = .ok (.enter 67 args) w := enters_of Try.func67 (by kernel_rfl) rfl
section
variable {w : World} {d : Sd} {A M : Option Addr} (ca cm : Nat)
set_option maxHeartbeats 1000000 in
theorem sfree1_any (B k : Nat) (h : Ok1 d) (hA : Row w w.heap.size A d.aw) (c8 : Sp8 w B 0 d A ca M cm) (hk : (k : Int) < slotsOf d.z) :
    Calls Try.prog 67 #[.int .i64 (k : Nat), .pointer (some ⟨B, 0, none⟩)] w fun e w' => e = .returned (.bool (!tb d.aw k)) ∧ Below w.heap.size w w' := by
  have G := Lib.hid fun (w : World) hA => salloc_any (w := w) (d := d) (A := A) (M := M) ca cm hA h.a (k : Nat) (by omega) (by rw [h.an]; exact hk)
  have hbt : Hid (((k : Int)).toNat = k) := Lib.hid (Int.toNat_natCast k)
  rw [hbt.out] at G
  have zb := c8.lt
  obtain ⟨c0, c1, c2, c3, c4, c5, c6, c7⟩ := c8
  simp only [Nat.zero_add] at c0 c1 c2 c3 c4 c5 c6 c7
  clear h hk
  obtain ⟨f, p, z, an, aw, mn, mw, s⟩ := d
  simp only at *
  unfold spv at G
  simp only at G
  go_enter Try.func67, Try.ntmps67
  go_wp2_with (go_at_call 52; refine (G.out _ (hA.later (by repeat (first | exact Below.refl _ _ | assumption | (refine below_drewN ?_ _) | (refine Below.drew ?_) | (refine Below.alloc ?_ (by first | omega | (simp; omega) | simp) _) | (refine Below.setCell ?_ (by first | omega | (simp; omega) | simp) _) | (refine below_trans ?_ (by assumption) (by first | omega | (simp; omega) | simp)))))).mono ?_; rintro e w1 ⟨rfl, hb_w1⟩; obtain ⟨hc_w1, hf_w1⟩ := bcell hb_w1; have hs_w1 := hb_w1.size; (try simp only [World.size_alloc, World.size_setCell, World.size_drew, World.heap_drewN] at hs_w1))
  go_ret
  exact ⟨rfl, (by repeat (first | exact Below.refl _ _ | assumption | (refine below_drewN ?_ _) | (refine Below.drew ?_) | (refine Below.alloc ?_ (by first | omega | (simp; omega) | simp) _) | (refine Below.setCell ?_ (by first | omega | (simp; omega) | simp) _) | (refine below_trans ?_ (by assumption) (by first | omega | (simp; omega) | simp))))⟩
theorem says_free1 (B : Nat) (h : Ok1 d) (hA : Row w w.heap.size A d.aw) (c8 : Sp8 w B 0 d A ca M cm) :
    SaysN 67 #[.pointer (some ⟨B, 0, none⟩)] (slotsOf d.z).toNat (fun k => !tb d.aw k) w :=
  fun W k hb hk => sfree1_any ca cm B k h (hA.later hb) (c8.later hb) (by have := h.sized.slots; omega)
set_option maxHeartbeats 1000000 in
theorem sfree_any (h : Ok1 d) (hA : Row w w.heap.size A d.aw) (r : Int) (hI : IdxN (slotsOf d.z).toNat (fun k => !tb d.aw k) r) :
    Calls Try.prog 55 #[spv d A ca M cm] w fun e w' => e = .returned (.int .i64 r) ∧ Below w.heap.size w w' := by
  have HI := Lib.hid hI
  have H := Lib.hid h
  have HZ : Hid (slotsOf d.z = (((slotsOf d.z).toNat : Nat) : Int)) := Lib.hid (by have := h.sized.slots; omega)
  have b1 : Below w.heap.size w (w.alloc (.cells #[.int .i64 d.f, .int .i64 d.p, .int .i64 d.z, .int .i64 d.an, .slice A d.aw.length ca, .int .i64 d.mn, .slice M d.mw.length cm, .bool d.s] 26)) := (Below.refl _ _).alloc (Nat.le_refl _) _
  have Q := Lib.hid (says_free1 ca cm w.heap.size h (hA.later b1) (Sp8.new w d A ca M cm 26))
  have V := Lib.hid fun hs => swhere_any (w := w.alloc (.cells #[.int .i64 d.f, .int .i64 d.p, .int .i64 d.z, .int .i64 d.an, .slice A d.aw.length ca, .int .i64 d.mn, .slice M d.mw.length cm, .bool d.s] 26)) (d := d) (A := A) (M := M) ca cm h.sized 67 #[.pointer (some ⟨w.heap.size, 0, none⟩)] _ HZ.out (fun k => !tb d.aw k) eg_free1 hs r HI.out
  have W1 := Lib.hid (V.out Q.out)
  clear h hI V Q b1 HI HZ H
  obtain ⟨f, p, z, an, aw, mn, mw, s⟩ := d
  simp only at *
  unfold spv at W1 ⊢
  simp only at W1 ⊢
  go_enter Try.func55, Try.ntmps55
  go_wp2_with (go_at_call 50; refine W1.out.mono ?_; rintro e w1 ⟨rfl, hb_w1⟩; obtain ⟨hc_w1, hf_w1⟩ := bcell hb_w1; have hz_w1_w_0 : w.heap.size < w1.heap.size := (by have hzz := hb_w1.size; (try simp only [World.size_alloc, World.size_setCell, World.size_drew, World.heap_drewN] at hzz); omega); have hs_w1 := hb_w1.size; (try simp only [World.size_alloc, World.size_setCell, World.size_drew, World.heap_drewN] at hs_w1))
  go_ret
  exact ⟨rfl, (by repeat (first | exact Below.refl _ _ | assumption | (refine below_drewN ?_ _) | (refine Below.drew ?_) | (refine Below.alloc ?_ (by first | omega | (simp; omega) | simp) _) | (refine Below.setCell ?_ (by first | omega | (simp; omega) | simp) _) | (refine below_trans ?_ (by assumption) (by first | omega | (simp; omega) | simp))))⟩
end
end Go.Proofs.Ythphefoohkofbaa

/- Contracts of package span: whether there is room in a span. -/
namespace Go.Proofs.Ythphefoohkofbaa
open Go.RowKit
set_option linter.unusedVariables false
set_option linter.unusedSimpArgs false

section
variable {w : World} {d : Sd} {A M : Option Addr} (ca cm : Nat)
set_option maxHeartbeats 1000000 in
theorem sroom1_any (size : Int) (B : Nat) (h : Ok1 d) (hA : Row w w.heap.size A d.aw) (hB : w.cell? ⟨B, 0, none⟩ = some (.int .i64 size)) (r : Int) (hI : IdxN (slotsOf d.z).toNat (fun k => !tb d.aw k) r) (b : Bool) (hb : ((d.z == size) && (d.s && decide (0 ≤ r))) = b) :
    Calls Try.prog 54 #[spv d A ca M cm, .pointer (some ⟨B, 0, none⟩)] w fun e w' => e = .returned (.bool b) ∧ Below w.heap.size w w' := by
  have hlt := World.block_lt_of_cell? w _ hB
  have F := Lib.hid fun (w : World) hA => sfree_any (w := w) (d := d) (A := A) (M := M) ca cm h hA r hI
  clear h hI
  obtain ⟨f, p, z, an, aw, mn, mw, s⟩ := d
  simp only at *
  unfold spv at F ⊢
  simp only at F ⊢
  have k0 : (w.alloc (.cells #[.int .i64 f, .int .i64 p, .int .i64 z, .int .i64 an, .slice A aw.length ca, .int .i64 mn, .slice M mw.length cm, .bool s] 26)).cell? ⟨B, 0, none⟩ = some (.int .i64 size) := (World.cell?_alloc_lt _ _ ⟨_, _, _⟩ hlt).trans hB
  rcases hz : (z == size) with _ | _
  · rw [hz, Bool.false_and] at hb
    subst hb
    go_enter Try.func54, Try.ntmps54
    go_wp2
    go_ret
    exact ⟨rfl, (by repeat (first | exact Below.refl _ _ | assumption | (refine below_drewN ?_ _) | (refine Below.drew ?_) | (refine Below.alloc ?_ (by first | omega | (simp; omega) | simp) _) | (refine Below.setCell ?_ (by first | omega | (simp; omega) | simp) _) | (refine below_trans ?_ (by assumption) (by first | omega | (simp; omega) | simp))))⟩
  · rw [hz, Bool.true_and] at hb
    cases s
    · rw [Bool.false_and] at hb
      subst hb
      go_enter Try.func54, Try.ntmps54
      go_wp2
      go_ret
      exact ⟨rfl, (by repeat (first | exact Below.refl _ _ | assumption | (refine below_drewN ?_ _) | (refine Below.drew ?_) | (refine Below.alloc ?_ (by first | omega | (simp; omega) | simp) _) | (refine Below.setCell ?_ (by first | omega | (simp; omega) | simp) _) | (refine below_trans ?_ (by assumption) (by first | omega | (simp; omega) | simp))))⟩
    · rw [Bool.true_and] at hb
      go_enter Try.func54, Try.ntmps54
      go_wp2_with (go_at_call 55; refine (F.out _ (hA.later (by repeat (first | exact Below.refl _ _ | assumption | (refine below_drewN ?_ _) | (refine Below.drew ?_) | (refine Below.alloc ?_ (by first | omega | (simp; omega) | simp) _) | (refine Below.setCell ?_ (by first | omega | (simp; omega) | simp) _) | (refine below_trans ?_ (by assumption) (by first | omega | (simp; omega) | simp)))))).mono ?_; rintro e w1 ⟨rfl, hb_w1⟩; obtain ⟨hc_w1, hf_w1⟩ := bcell hb_w1; have hz_w1_w_0 : w.heap.size < w1.heap.size := (by have hzz := hb_w1.size; (try simp only [World.size_alloc, World.size_setCell, World.size_drew, World.heap_drewN] at hzz); omega); have hs_w1 := hb_w1.size; (try simp only [World.size_alloc, World.size_setCell, World.size_drew, World.heap_drewN] at hs_w1))
      go_ret
      exact ⟨by rw [← hb]; rfl, (by repeat (first | exact Below.refl _ _ | assumption | (refine below_drewN ?_ _) | (refine Below.drew ?_) | (refine Below.alloc ?_ (by first | omega | (simp; omega) | simp) _) | (refine Below.setCell ?_ (by first | omega | (simp; omega) | simp) _) | (refine below_trans ?_ (by assumption) (by first | omega | (simp; omega) | simp))))⟩
end
end Go.Proofs.Ythphefoohkofbaa

/- Contracts of package span: Room. -/
namespace Go.Proofs.Ythphefoohkofbaa
open Go.RowKit
set_option linter.unusedVariables false
set_option linter.unusedSimpArgs false

theorem IdxN.any {n : Nat} {q : Nat → Bool} {r : Int} (h : IdxN n q r) : (List.range n).any q = decide (0 ≤ r) := by
  rcases h with ⟨rfl, h⟩ | ⟨i, rfl, h2, h3, _⟩
  · rw [show decide ((0 : Int) ≤ -1) = false by decide, List.any_eq_false]
    intro k hk
    rw [h k (List.mem_range.1 hk)]
    decide
  · rw [decide_eq_true (by omega : (0 : Int) ≤ (i : Int)), List.any_eq_true]
    exact ⟨i, List.mem_range.2 h2, h3⟩
/-- there is room in a span -/
def hasRoom (size : Int) (d : Sd) : Bool := (d.z == size) && (d.s && (List.range (slotsOf d.z).toNat).any fun k => !tb d.aw k)
theorem eg_room1 : ∀ args w, (callFunc 54 args).run Try.prog w = .ok (.enter 54 args) w := enters_of Try.func54 (by kernel_rfl) rfl
/-- where there is room -/
def RoomE (l : List Sd) (size : Int) (x k y : Int) : Prop := (¬ OkL l ∧ x = 0 ∧ k = 0 ∧ y = 2) ∨ (OkL l ∧ IdxE l (hasRoom size) (-1) ∧ x = 0 ∧ k = 0 ∧ y = 3) ∨
  (∃ (i : Nat) (r : Int), OkL l ∧ IdxE l (hasRoom size) i ∧ IdxN (slotsOf (nth l i).z).toNat (fun k => !tb (nth l i).aw k) r ∧ x = i ∧ k = r ∧ y = 0)
section
variable {w : World} {A : Option Addr} {l : List Sd} (cap : Nat)
theorem says_room1 (size : Int) (B : Nat) (hok : OkL l) (hB : w.cell? ⟨B, 0, none⟩ = some (.int .i64 size)) : Says 54 #[.pointer (some ⟨B, 0, none⟩)] l (hasRoom size) w :=
  fun W i A M ca cm hb hi hA hM => by
    obtain ⟨r, hr⟩ := IdxN.ex (slotsOf (nth l i).z).toNat fun k => !tb (nth l i).aw k
    exact sroom1_any ca cm size B (hok.2.1 i hi) hA ((hb.cell (p := ⟨B, 0, none⟩) (World.block_lt_of_cell? w _ hB)).trans hB) r hr _ (by unfold hasRoom; rw [hr.any])
set_option maxHeartbeats 2000000 in
theorem sroom_any (hr : SRow w w.heap.size A l) (hl : l.length ≤ 17592186044416) (size : Int) (x k y : Int) (hF : RoomE l size x k y) :
    Calls Try.prog 23 #[.slice A l.length cap, .int .i64 size] w fun e w' => e = .returned (.tuple #[.int .i64 x, .int .i64 k, .int .i64 y]) ∧ Below w.heap.size w w' := by
  rcases hF with ⟨h, rfl, rfl, rfl⟩ | ⟨h, hI, rfl, rfl, rfl⟩ | ⟨i, r, h, hI, hJ, rfl, rfl, rfl⟩
  · have C := Lib.hid fun (w : World) hr => scheck_any (w := w) (A := A) (l := l) cap hr hl 2 (.inr ⟨h, rfl⟩)
    clear h
    go_enter Try.func23, Try.ntmps23
    go_wp2_with fail
    go_at_call 19
    refine (C.out _ (hr.later (by repeat (first | exact Below.refl _ _ | assumption | (refine below_drewN ?_ _) | (refine Below.drew ?_) | (refine Below.alloc ?_ (by first | omega | (simp; omega) | simp) _) | (refine Below.setCell ?_ (by first | omega | (simp; omega) | simp) _) | (refine below_trans ?_ (by assumption) (by first | omega | (simp; omega) | simp)))))).mono ?_
    rintro e w1 ⟨rfl, hb_w1⟩
    obtain ⟨hc_w1, hf_w1⟩ := bcell hb_w1; have hz_w1_w_0 : w.heap.size < w1.heap.size := (by have hzz := hb_w1.size; (try simp only [World.size_alloc, World.size_setCell, World.size_drew, World.heap_drewN] at hzz); omega); have hs_w1 := hb_w1.size; (try simp only [World.size_alloc, World.size_setCell, World.size_drew, World.heap_drewN] at hs_w1)
    go_wp2
    go_ret3
    exact ⟨rfl, (by repeat (first | exact Below.refl _ _ | assumption | (refine below_drewN ?_ _) | (refine Below.drew ?_) | (refine Below.alloc ?_ (by first | omega | (simp; omega) | simp) _) | (refine Below.setCell ?_ (by first | omega | (simp; omega) | simp) _) | (refine below_trans ?_ (by assumption) (by first | omega | (simp; omega) | simp))))⟩
  · have C := Lib.hid fun (w : World) hr => scheck_any (w := w) (A := A) (l := l) cap hr hl 0 (.inl ⟨h, rfl⟩)
    have HI := Lib.hid hI
    have HO := Lib.hid h
    clear h hI
    go_enter Try.func23, Try.ntmps23
    go_wp2_with fail
    go_at_call 19
    refine (C.out _ (hr.later (by repeat (first | exact Below.refl _ _ | assumption | (refine below_drewN ?_ _) | (refine Below.drew ?_) | (refine Below.alloc ?_ (by first | omega | (simp; omega) | simp) _) | (refine Below.setCell ?_ (by first | omega | (simp; omega) | simp) _) | (refine below_trans ?_ (by assumption) (by first | omega | (simp; omega) | simp)))))).mono ?_
    rintro e w1 ⟨rfl, hb_w1⟩
    obtain ⟨hc_w1, hf_w1⟩ := bcell hb_w1; have hz_w1_w_0 : w.heap.size < w1.heap.size := (by have hzz := hb_w1.size; (try simp only [World.size_alloc, World.size_setCell, World.size_drew, World.heap_drewN] at hzz); omega); have hs_w1 := hb_w1.size; (try simp only [World.size_alloc, World.size_setCell, World.size_drew, World.heap_drewN] at hs_w1)
    have ka : w1.cell? ⟨w.heap.size, 0, none⟩ = some (.int .i64 size) := (hc_w1 _ _ (by first | omega | (simp; omega) | simp)).trans (by simp [go_sem])
    go_wp2_with fail
    go_at_call 47
    refine (sindex_any cap 54 _ (hasRoom size) eg_room1 (hr.later (by repeat (first | exact Below.refl _ _ | assumption | (refine below_drewN ?_ _) | (refine Below.drew ?_) | (refine Below.alloc ?_ (by first | omega | (simp; omega) | simp) _) | (refine Below.setCell ?_ (by first | omega | (simp; omega) | simp) _) | (refine below_trans ?_ (by assumption) (by first | omega | (simp; omega) | simp))))) hl (says_room1 size _ HO.out ka) (-1) HI.out).mono ?_
    rintro e w2 ⟨rfl, hb_w2⟩
    obtain ⟨hc_w2, hf_w2⟩ := bcell hb_w2; have hz_w2_w_0 : w.heap.size < w2.heap.size := (by have hzz := hb_w2.size; (try simp only [World.size_alloc, World.size_setCell, World.size_drew, World.heap_drewN] at hzz); omega); have hs_w2 := hb_w2.size; (try simp only [World.size_alloc, World.size_setCell, World.size_drew, World.heap_drewN] at hs_w2)
    go_wp2
    go_ret3
    exact ⟨rfl, (by repeat (first | exact Below.refl _ _ | assumption | (refine below_drewN ?_ _) | (refine Below.drew ?_) | (refine Below.alloc ?_ (by first | omega | (simp; omega) | simp) _) | (refine Below.setCell ?_ (by first | omega | (simp; omega) | simp) _) | (refine below_trans ?_ (by assumption) (by first | omega | (simp; omega) | simp))))⟩
  · have C := Lib.hid fun (w : World) hr => scheck_any (w := w) (A := A) (l := l) cap hr hl 0 (.inl ⟨h, rfl⟩)
    have HI := Lib.hid hI
    have HO := Lib.hid h
    have hil : i < l.length := by
      rcases hI with ⟨h1, _⟩ | ⟨j, h1, h2, _⟩
      · omega
      · omega
    have F := Lib.hid fun (w : World) (A M : Option Addr) (ca cm : Nat) hA => sfree_any (w := w) (d := nth l i) (A := A) (M := M) ca cm (h.2.1 i hil) hA k hJ
    clear h hI hJ
    go_enter Try.func23, Try.ntmps23
    go_wp2_with fail
    go_at_call 19
    refine (C.out _ (hr.later (by repeat (first | exact Below.refl _ _ | assumption | (refine below_drewN ?_ _) | (refine Below.drew ?_) | (refine Below.alloc ?_ (by first | omega | (simp; omega) | simp) _) | (refine Below.setCell ?_ (by first | omega | (simp; omega) | simp) _) | (refine below_trans ?_ (by assumption) (by first | omega | (simp; omega) | simp)))))).mono ?_
    rintro e w1 ⟨rfl, hb_w1⟩
    obtain ⟨hc_w1, hf_w1⟩ := bcell hb_w1; have hz_w1_w_0 : w.heap.size < w1.heap.size := (by have hzz := hb_w1.size; (try simp only [World.size_alloc, World.size_setCell, World.size_drew, World.heap_drewN] at hzz); omega); have hs_w1 := hb_w1.size; (try simp only [World.size_alloc, World.size_setCell, World.size_drew, World.heap_drewN] at hs_w1)
    have ka : w1.cell? ⟨w.heap.size, 0, none⟩ = some (.int .i64 size) := (hc_w1 _ _ (by first | omega | (simp; omega) | simp)).trans (by simp [go_sem])
    go_wp2_with fail
    go_at_call 47
    refine (sindex_any cap 54 _ (hasRoom size) eg_room1 (hr.later (by repeat (first | exact Below.refl _ _ | assumption | (refine below_drewN ?_ _) | (refine Below.drew ?_) | (refine Below.alloc ?_ (by first | omega | (simp; omega) | simp) _) | (refine Below.setCell ?_ (by first | omega | (simp; omega) | simp) _) | (refine below_trans ?_ (by assumption) (by first | omega | (simp; omega) | simp))))) hl (says_room1 size _ HO.out ka) (i : Nat) HI.out).mono ?_
    rintro e w2 ⟨rfl, hb_w2⟩
    obtain ⟨hc_w2, hf_w2⟩ := bcell hb_w2; have hz_w2_w_0 : w.heap.size < w2.heap.size := (by have hzz := hb_w2.size; (try simp only [World.size_alloc, World.size_setCell, World.size_drew, World.heap_drewN] at hzz); omega); have hs_w2 := hb_w2.size; (try simp only [World.size_alloc, World.size_setCell, World.size_drew, World.heap_drewN] at hs_w2)
    have hr2 : SRow w2 w2.heap.size A l := hr.later (by repeat (first | exact Below.refl _ _ | assumption | (refine below_drewN ?_ _) | (refine Below.drew ?_) | (refine Below.alloc ?_ (by first | omega | (simp; omega) | simp) _) | (refine Below.setCell ?_ (by first | omega | (simp; omega) | simp) _) | (refine below_trans ?_ (by assumption) (by first | omega | (simp; omega) | simp))))
    obtain ⟨b, off, rfl, hbb, hc⟩ := hr2.at_ (by omega)
    obtain ⟨Aa, ca, Am, cm, c8, ra, rm⟩ := hc i hil
    obtain ⟨d, hd⟩ : ∃ d, Hid (nth l i = d) := ⟨_, rfl⟩
    have FF := Lib.hid fun (w : World) hA => F.out w Aa Am ca cm hA
    rw [hd.out] at c8 ra rm FF
    obtain ⟨c0, c1, c2, c3, c4, c5, c6, c7⟩ := id c8
    have hi0 : (0 : Int) ≤ (i : Int) := by omega
    have hi1 : (i : Int) < (l.length : Int) := by omega
    have hi2 : decide ((i : Int) < 0) = false := decide_eq_false (by omega)
    clear hc F c8
    obtain ⟨f, p, z, an, aw, mn, mw, s⟩ := d
    simp only at *
    unfold spv at FF
    simp only at FF
    go_wp2_with (go_at_call 55; refine (FF.out _ (ra.later (by repeat (first | exact Below.refl _ _ | assumption | (refine below_drewN ?_ _) | (refine Below.drew ?_) | (refine Below.alloc ?_ (by first | omega | (simp; omega) | simp) _) | (refine Below.setCell ?_ (by first | omega | (simp; omega) | simp) _) | (refine below_trans ?_ (by assumption) (by first | omega | (simp; omega) | simp)))))).mono ?_; rintro e w3 ⟨rfl, hb_w3⟩; obtain ⟨hc_w3, hf_w3⟩ := bcell hb_w3; have hz_w3_w_0 : w.heap.size < w3.heap.size := (by have hzz := hb_w3.size; (try simp only [World.size_alloc, World.size_setCell, World.size_drew, World.heap_drewN] at hzz); omega); have hs_w3 := hb_w3.size; (try simp only [World.size_alloc, World.size_setCell, World.size_drew, World.heap_drewN] at hs_w3))
    go_ret3
    exact ⟨rfl, (by repeat (first | exact Below.refl _ _ | assumption | (refine below_drewN ?_ _) | (refine Below.drew ?_) | (refine Below.alloc ?_ (by first | omega | (simp; omega) | simp) _) | (refine Below.setCell ?_ (by first | omega | (simp; omega) | simp) _) | (refine below_trans ?_ (by assumption) (by first | omega | (simp; omega) | simp))))⟩
end
end Go.Proofs.Ythphefoohkofbaa

/- Contracts of package span: the closures of Add and Drop. -/
namespace Go.Proofs.Ythphefoohkofbaa
open Go.RowKit
set_option linter.unusedVariables false
set_option linter.unusedSimpArgs false

theorem eg_drop1 : ∀ args w, (callFunc 58 args).run Try.prog w = .ok (.enter 58 args) w := enters_of Try.func58 (by kernel_rfl) rfl
theorem eg_add1 : ∀ args w, (callFunc 56 args).run Try.prog w = .ok (.enter 56 args) w := enters_of Try.func56 (by kernel_rfl) rfl
section
variable {w : World} {d : Sd} {A M : Option Addr} (ca cm : Nat)
theorem sdrop1_any (first : Int) (B : Nat) (hB : w.cell? ⟨B, 0, none⟩ = some (.int .i64 first)) :
    Calls Try.prog 58 #[spv d A ca M cm, .pointer (some ⟨B, 0, none⟩)] w fun e w' => e = .returned (.bool (d.f == first)) ∧ Below w.heap.size w w' := by
  have hlt := World.block_lt_of_cell? w _ hB
  obtain ⟨f, p, z, an, aw, mn, mw, s⟩ := d
  unfold spv
  simp only at *
  have k0 : (w.alloc (.cells #[.int .i64 f, .int .i64 p, .int .i64 z, .int .i64 an, .slice A aw.length ca, .int .i64 mn, .slice M mw.length cm, .bool s] 26)).cell? ⟨B, 0, none⟩ = some (.int .i64 first) := (World.cell?_alloc_lt _ _ ⟨_, _, _⟩ hlt).trans hB
  go_enter Try.func58, Try.ntmps58
  go_wp2
  go_ret
  exact ⟨rfl, (by repeat (first | exact Below.refl _ _ | assumption | (refine below_drewN ?_ _) | (refine Below.drew ?_) | (refine Below.alloc ?_ (by first | omega | (simp; omega) | simp) _) | (refine Below.setCell ?_ (by first | omega | (simp; omega) | simp) _) | (refine below_trans ?_ (by assumption) (by first | omega | (simp; omega) | simp))))⟩
theorem sadd1_any (sf : Int) (B : Nat) (h : Ok1 d) (hB : w.cell? ⟨B, 0, none⟩ = some (.int .i64 sf)) :
    Calls Try.prog 56 #[spv d A ca M cm, .pointer (some ⟨B, 0, none⟩)] w fun e w' => e = .returned (.bool (decide (sf < d.f + d.p))) ∧ Below w.heap.size w w' := by
  have hp := h.placed
  unfold Placed at hp
  have hs := h.sized.slots
  have G := Lib.hid fun (w : World) => sbehind_any (w := w) d A ca M cm (by omega) (by omega)
  have hlt := World.block_lt_of_cell? w _ hB
  clear h hp hs
  obtain ⟨f, p, z, an, aw, mn, mw, s⟩ := d
  simp only at *
  unfold spv at G ⊢
  simp only at G ⊢
  have k0 : (w.alloc (.cells #[.int .i64 f, .int .i64 p, .int .i64 z, .int .i64 an, .slice A aw.length ca, .int .i64 mn, .slice M mw.length cm, .bool s] 26)).cell? ⟨B, 0, none⟩ = some (.int .i64 sf) := (World.cell?_alloc_lt _ _ ⟨_, _, _⟩ hlt).trans hB
  go_enter Try.func56, Try.ntmps56
  go_wp2_with fail
  go_region_held3 (fun X : World => X.cell? ⟨w.heap.size, 0, none⟩ = some (.int .i64 f) ∧ X.cell? ⟨w.heap.size, 1, none⟩ = some (.int .i64 p) ∧ X.cell? ⟨w.heap.size, 2, none⟩ = some (.int .i64 z) ∧ X.cell? ⟨w.heap.size, 3, none⟩ = some (.int .i64 an) ∧ X.cell? ⟨w.heap.size, 4, none⟩ = some (.slice A aw.length ca) ∧ X.cell? ⟨w.heap.size, 5, none⟩ = some (.int .i64 mn) ∧ X.cell? ⟨w.heap.size, 6, none⟩ = some (.slice M mw.length cm) ∧ X.cell? ⟨w.heap.size, 7, none⟩ = some (.bool s) ∧ X.cell? ⟨B, 0, none⟩ = some (.int .i64 sf))
    ((refine ⟨?_, ?_, ?_, ?_, ?_, ?_, ?_, ?_, ?_⟩ <;> first | assumption | (simp [go_sem]; done)))
    ((go_at_call 46; refine (G.out _).mono ?_; rintro e w1 ⟨rfl, hb_w1⟩; have m0 : w1.cell? ⟨w.heap.size, 0, none⟩ = some (.int .i64 f) := (hb_w1.cell (p := ⟨w.heap.size, 0, none⟩) (by first | omega | (simp; omega) | simp)).trans (by first | assumption | (simp [go_sem]; done)); have m1 : w1.cell? ⟨w.heap.size, 1, none⟩ = some (.int .i64 p) := (hb_w1.cell (p := ⟨w.heap.size, 1, none⟩) (by first | omega | (simp; omega) | simp)).trans (by first | assumption | (simp [go_sem]; done)); have m2 : w1.cell? ⟨w.heap.size, 2, none⟩ = some (.int .i64 z) := (hb_w1.cell (p := ⟨w.heap.size, 2, none⟩) (by first | omega | (simp; omega) | simp)).trans (by first | assumption | (simp [go_sem]; done)); have m3 : w1.cell? ⟨w.heap.size, 3, none⟩ = some (.int .i64 an) := (hb_w1.cell (p := ⟨w.heap.size, 3, none⟩) (by first | omega | (simp; omega) | simp)).trans (by first | assumption | (simp [go_sem]; done)); have m4 : w1.cell? ⟨w.heap.size, 4, none⟩ = some (.slice A aw.length ca) := (hb_w1.cell (p := ⟨w.heap.size, 4, none⟩) (by first | omega | (simp; omega) | simp)).trans (by first | assumption | (simp [go_sem]; done)); have m5 : w1.cell? ⟨w.heap.size, 5, none⟩ = some (.int .i64 mn) := (hb_w1.cell (p := ⟨w.heap.size, 5, none⟩) (by first | omega | (simp; omega) | simp)).trans (by first | assumption | (simp [go_sem]; done)); have m6 : w1.cell? ⟨w.heap.size, 6, none⟩ = some (.slice M mw.length cm) := (hb_w1.cell (p := ⟨w.heap.size, 6, none⟩) (by first | omega | (simp; omega) | simp)).trans (by first | assumption | (simp [go_sem]; done)); have m7 : w1.cell? ⟨w.heap.size, 7, none⟩ = some (.bool s) := (hb_w1.cell (p := ⟨w.heap.size, 7, none⟩) (by first | omega | (simp; omega) | simp)).trans (by first | assumption | (simp [go_sem]; done)); have m8 : w1.cell? ⟨B, 0, none⟩ = some (.int .i64 sf) := (hb_w1.cell (p := ⟨B, 0, none⟩) (by first | omega | (simp; omega) | simp)).trans (by first | assumption | (simp [go_sem]; done))))
  all_goals
    go_wp2
    go_ret
    exact ⟨rfl, (by repeat (first | exact Below.refl _ _ | assumption | (refine below_drewN ?_ _) | (refine Below.drew ?_) | (refine Below.alloc ?_ (by first | omega | (simp; omega) | simp) _) | (refine Below.setCell ?_ (by first | omega | (simp; omega) | simp) _) | (refine below_trans ?_ (by assumption) (by first | omega | (simp; omega) | simp))))⟩
end
end Go.Proofs.Ythphefoohkofbaa

/- Contracts of the document's own answers for spans: slots, addresses. -/
namespace Go.Proofs.Ythphefoohkofbaa
open Go.RowKit
set_option linter.unusedVariables false
set_option linter.unusedSimpArgs false

section
variable {w : World}
theorem xmany_any {p z : Int} (h : Sized p z) : Calls Try.prog 38 #[.int .i64 z] w fun e w' => e = .returned (.int .i64 (slotsOf z)) ∧ w = w' := by
  rcases h with ⟨rfl | rfl | rfl | rfl, rfl⟩ | ⟨rfl, h1, h2⟩
  all_goals
    go_enter Try.func38, Try.ntmps38
    go_wp2
    go_ret
    exact ⟨rfl, rfl⟩
theorem xat_any (d : Sd) (A : Option Addr) (ca : Nat) (M : Option Addr) (cm : Nat) (k : Int) (h0 : 0 ≤ d.f) (h1 : d.f ≤ 1024) (m : Int) (hm : k * d.z = m) (hm0 : 0 ≤ m) (hm1 : m ≤ 1600) :
    Calls Try.prog 42 #[spv d A ca M cm, .int .i64 k] w fun e w' => e = .returned (.int .u64 (d.f * 16 + m)) ∧ Below w.heap.size w w' := by
  obtain ⟨f, p', z, an, aw, mn, mw, s⟩ := d
  simp only at h0 h1 hm
  unfold spv
  simp only
  have hmw : IntKind.i64.wrap m = m := by rw [IntWalk.i64_in _ (by omega)]
  have hmu : IntKind.i64.wrap (f * 16 + m) = f * 16 + m := by rw [IntWalk.i64_in _ (by omega)]
  have hms : IntKind.u64.wrap (f * 16 + m) = f * 16 + m := by rw [IntKind.wrap_u64]; omega
  go_enter Try.func42, Try.ntmps42
  go_wp2
  go_ret
  exact ⟨rfl, (by repeat (first | exact Below.refl _ _ | assumption | (refine below_drewN ?_ _) | (refine Below.drew ?_) | (refine Below.alloc ?_ (by first | omega | (simp; omega) | simp) _) | (refine Below.setCell ?_ (by first | omega | (simp; omega) | simp) _) | (refine below_trans ?_ (by assumption) (by first | omega | (simp; omega) | simp))))⟩
end
end Go.Proofs.Ythphefoohkofbaa
