/- Plain facts of spans; contracts of package span's leaves. -/
import Derived.Test.YtbefjhgegoginaaDoorIRow
import Derived.Deep.RegionHeld3
namespace Go.Proofs.YtbefjhgegoginaaDoor
open Go.RowKit
set_option linter.unusedVariables false
set_option linter.unusedSimpArgs false

/-- a span's numbers, bits and mark -/
structure Sd where
  f : Int
  p : Int
  z : Int
  an : Int
  aw : List Nat
  mn : Int
  mw : List Nat
  s : Bool
/-- a span as it stands: its words lie at A and M -/
def spv (d : Sd) (A : Option Addr) (ca : Nat) (M : Option Addr) (cm : Nat) : Value :=
  .agg #[.int .i64 d.f, .int .i64 d.p, .int .i64 d.z, .int .i64 d.an, .slice A d.aw.length ca, .int .i64 d.mn, .slice M d.mw.length cm, .bool d.s]
def Sized (p z : Int) : Prop := ((z = 2 ∨ z = 4 ∨ z = 8 ∨ z = 16) ∧ p = 1) ∨ (z = 0 ∧ 2 ≤ p ∧ p ≤ 4)
instance (p z : Int) : Decidable (Sized p z) := inferInstanceAs (Decidable (_ ∨ _))
def Placed (f p : Int) : Prop := 0 ≤ f ∧ f + p ≤ 1024
instance (f p : Int) : Decidable (Placed f p) := inferInstanceAs (Decidable (_ ∧ _))
def slotsOf (z : Int) : Int := if z = 0 then 1 else 16 / z
theorem Sized.slots {p z : Int} (h : Sized p z) : 1 ≤ slotsOf z ∧ slotsOf z ≤ 8 ∧ slotsOf z * z ≤ 16 ∧ 0 ≤ z ∧ z ≤ 16 ∧ 1 ≤ p ∧ p ≤ 4 := by
  rcases h with ⟨rfl | rfl | rfl | rfl, rfl⟩ | ⟨rfl, h1, h2⟩
  all_goals
    simp [slotsOf]
    try omega
/-- when a span is right -/
structure Ok1 (d : Sd) : Prop where
  sized : Sized d.p d.z
  placed : Placed d.f d.p
  a : Right d.an d.aw
  an : d.an = slotsOf d.z
  m : Right d.mn d.mw
  mn : d.mn = slotsOf d.z
  sub : ∀ i, i < (slotsOf d.z).toNat → tb d.mw i = true → tb d.aw i = true
theorem Ok1.aw {d : Sd} (h : Ok1 d) : d.aw.length = 1 := by
  have := h.a.2.2.1
  have := h.an
  have := h.sized.slots
  omega
theorem Ok1.mw {d : Sd} (h : Ok1 d) : d.mw.length = 1 := by
  have := h.m.2.2.1
  have := h.mn
  have := h.sized.slots
  omega

section
variable {w : World} (d : Sd) (A : Option Addr) (ca : Nat) (M : Option Addr) (cm : Nat)
theorem sslots_any {p : Int} (h : Sized p d.z) : Calls Tryd.prog 19 #[spv d A ca M cm] w fun e w' => e = .returned (.int .i64 (slotsOf d.z)) ∧ Below w.heap.size w w' := by
  obtain ⟨f, p', z, an, aw, mn, mw, s⟩ := d
  simp only at h
  unfold spv
  simp only
  rcases h with ⟨rfl | rfl | rfl | rfl, rfl⟩ | ⟨rfl, h1, h2⟩
  all_goals
    go_enter Tryd.func19, Tryd.ntmps19
    go_wp2
    go_ret
    exact ⟨rfl, (by repeat (first | exact Below.refl _ _ | assumption | (refine below_drewN ?_ _) | (refine Below.drew ?_) | (refine Below.alloc ?_ (by first | omega | (simp; omega) | simp) _) | (refine Below.setCell ?_ (by first | omega | (simp; omega) | simp) _) | (refine below_trans ?_ (by assumption) (by first | omega | (simp; omega) | simp))))⟩
theorem sbehind_any (h : -9000000000000000000 ≤ d.f ∧ d.f ≤ 9000000000000000000) (hp : 0 ≤ d.p ∧ d.p ≤ 4) : Calls Tryd.prog 25 #[spv d A ca M cm] w fun e w' => e = .returned (.int .i64 (d.f + d.p)) ∧ Below w.heap.size w w' := by
  obtain ⟨f, p', z, an, aw, mn, mw, s⟩ := d
  simp only at h hp
  unfold spv
  simp only
  go_enter Tryd.func25, Tryd.ntmps25
  go_wp2
  go_ret
  exact ⟨rfl, (by repeat (first | exact Below.refl _ _ | assumption | (refine below_drewN ?_ _) | (refine Below.drew ?_) | (refine Below.alloc ?_ (by first | omega | (simp; omega) | simp) _) | (refine Below.setCell ?_ (by first | omega | (simp; omega) | simp) _) | (refine below_trans ?_ (by assumption) (by first | omega | (simp; omega) | simp))))⟩
theorem spage_any (n : Int) (h0 : 0 ≤ n) (h1 : n ≤ 2000) : Calls Tryd.prog 24 #[.int .i64 n] w fun e w' => e = .returned (.int .u64 (n * 16)) ∧ w = w' := by
  go_enter Tryd.func24, Tryd.ntmps24
  go_wp2
  go_ret
  exact ⟨rfl, rfl⟩
theorem saddress_any (k : Int) (h0 : 0 ≤ d.f) (h1 : d.f ≤ 1024) (hz : 0 ≤ d.z ∧ d.z ≤ 16) (k0 : 0 ≤ k) (k1 : k ≤ 100) (m : Int) (hm : k * d.z = m) (hm0 : 0 ≤ m) (hm1 : m ≤ 1600) : Calls Tryd.prog 21 #[spv d A ca M cm, .int .i64 k] w fun e w' => e = .returned (.int .u64 (d.f * 16 + m)) ∧ Below w.heap.size w w' := by
  obtain ⟨f, p', z, an, aw, mn, mw, s⟩ := d
  simp only at h0 h1 hz hm
  unfold spv
  simp only
  have hmw : IntKind.i64.wrap m = m := by rw [IntWalk.i64_in _ (by omega)]
  have hmu : IntKind.u64.wrap m = m := by rw [IntKind.wrap_u64]; omega
  have hms : IntKind.u64.wrap (f * 16 + m) = f * 16 + m := by rw [IntKind.wrap_u64]; omega
  go_enter Tryd.func21, Tryd.ntmps21
  go_wp2_with fail
  go_region_held3 (fun X : World => X.cell? ⟨w.heap.size, 0, none⟩ = some (.int .i64 f) ∧ X.cell? ⟨w.heap.size, 2, none⟩ = some (.int .i64 z))
    ((refine ⟨?_, ?_⟩ <;> first | assumption | (simp [go_sem]; done)))
    ((go_at_call 24; refine (spage_any f (by omega) (by omega)).mono ?_; rintro e w1 ⟨rfl, rfl⟩))
  all_goals
    go_wp2
    go_ret
    exact ⟨rfl, (by repeat (first | exact Below.refl _ _ | assumption | (refine below_drewN ?_ _) | (refine Below.drew ?_) | (refine Below.alloc ?_ (by first | omega | (simp; omega) | simp) _) | (refine Below.setCell ?_ (by first | omega | (simp; omega) | simp) _) | (refine below_trans ?_ (by assumption) (by first | omega | (simp; omega) | simp))))⟩
theorem ssized_any (b : Bool) (hb : decide (Sized d.p d.z) = b) : Calls Tryd.prog 17 #[spv d A ca M cm] w fun e w' => e = .returned (.bool b) ∧ Below w.heap.size w w' := by
  obtain ⟨f, p, z, an, aw, mn, mw, s⟩ := d
  simp only at hb
  unfold spv
  simp only
  subst hb
  by_cases h0 : z = 0
  · subst h0
    by_cases h2 : 2 ≤ p
    · have d2 : decide (2 ≤ p) = true := decide_eq_true h2
      by_cases h4 : p ≤ 4
      · have d4 : decide (p ≤ 4) = true := decide_eq_true h4
        rw [show decide (Sized p 0) = true from decide_eq_true (.inr ⟨rfl, h2, h4⟩)]
        go_enter Tryd.func17, Tryd.ntmps17
        go_wp2
        go_ret
        exact ⟨rfl, (by repeat (first | exact Below.refl _ _ | assumption | (refine below_drewN ?_ _) | (refine Below.drew ?_) | (refine Below.alloc ?_ (by first | omega | (simp; omega) | simp) _) | (refine Below.setCell ?_ (by first | omega | (simp; omega) | simp) _) | (refine below_trans ?_ (by assumption) (by first | omega | (simp; omega) | simp))))⟩
      · have d4 : decide (p ≤ 4) = false := decide_eq_false h4
        rw [show decide (Sized p 0) = false from decide_eq_false (by unfold Sized; omega)]
        go_enter Tryd.func17, Tryd.ntmps17
        go_wp2
        go_ret
        exact ⟨rfl, (by repeat (first | exact Below.refl _ _ | assumption | (refine below_drewN ?_ _) | (refine Below.drew ?_) | (refine Below.alloc ?_ (by first | omega | (simp; omega) | simp) _) | (refine Below.setCell ?_ (by first | omega | (simp; omega) | simp) _) | (refine below_trans ?_ (by assumption) (by first | omega | (simp; omega) | simp))))⟩
    · have d2 : decide (2 ≤ p) = false := decide_eq_false h2
      rw [show decide (Sized p 0) = false from decide_eq_false (by unfold Sized; omega)]
      go_enter Tryd.func17, Tryd.ntmps17
      go_wp2
      go_ret
      exact ⟨rfl, (by repeat (first | exact Below.refl _ _ | assumption | (refine below_drewN ?_ _) | (refine Below.drew ?_) | (refine Below.alloc ?_ (by first | omega | (simp; omega) | simp) _) | (refine Below.setCell ?_ (by first | omega | (simp; omega) | simp) _) | (refine below_trans ?_ (by assumption) (by first | omega | (simp; omega) | simp))))⟩
  · have e0 : (z == 0) = false := by simpa using h0
    by_cases hz : z = 2 ∨ z = 4 ∨ z = 8 ∨ z = 16
    · have hB : decide (Sized p z) = (p == 1) := by
        rw [Bool.eq_iff_iff]
        simp only [decide_eq_true_eq, beq_iff_eq]
        unfold Sized
        omega
      rw [hB]
      clear hB e0
      rcases hz with rfl | rfl | rfl | rfl
      all_goals
        go_enter Tryd.func17, Tryd.ntmps17
        go_wp2
        go_ret
        exact ⟨rfl, (by repeat (first | exact Below.refl _ _ | assumption | (refine below_drewN ?_ _) | (refine Below.drew ?_) | (refine Below.alloc ?_ (by first | omega | (simp; omega) | simp) _) | (refine Below.setCell ?_ (by first | omega | (simp; omega) | simp) _) | (refine below_trans ?_ (by assumption) (by first | omega | (simp; omega) | simp))))⟩
    · have e2 : (z == 2) = false := by simp; omega
      have e4 : (z == 4) = false := by simp; omega
      have e8 : (z == 8) = false := by simp; omega
      have e16 : (z == 16) = false := by simp; omega
      rw [show decide (Sized p z) = false from decide_eq_false (by unfold Sized; omega)]
      clear hz
      go_enter Tryd.func17, Tryd.ntmps17
      go_wp2
      go_ret
      exact ⟨rfl, (by repeat (first | exact Below.refl _ _ | assumption | (refine below_drewN ?_ _) | (refine Below.drew ?_) | (refine Below.alloc ?_ (by first | omega | (simp; omega) | simp) _) | (refine Below.setCell ?_ (by first | omega | (simp; omega) | simp) _) | (refine below_trans ?_ (by assumption) (by first | omega | (simp; omega) | simp))))⟩
theorem splaced_any (hp : 1 ≤ d.p ∧ d.p ≤ 4) (b : Bool) (hb : decide (Placed d.f d.p) = b) : Calls Tryd.prog 18 #[spv d A ca M cm] w fun e w' => e = .returned (.bool b) ∧ Below w.heap.size w w' := by
  obtain ⟨f, p, z, an, aw, mn, mw, s⟩ := d
  simp only at hb hp
  unfold spv
  simp only
  subst hb
  have ew : IntKind.i64.wrap (1024 - p) = 1024 - p := by rw [IntWalk.i64_in _ (by omega)]
  by_cases h0 : 0 ≤ f
  · have d0 : decide (0 ≤ f) = true := decide_eq_true h0
    by_cases h1 : f ≤ 1024 - p
    · have d1 : decide (f ≤ 1024 - p) = true := decide_eq_true h1
      rw [show decide (Placed f p) = true from decide_eq_true ⟨h0, by omega⟩]
      go_enter Tryd.func18, Tryd.ntmps18
      go_wp2
      go_ret
      exact ⟨rfl, (by repeat (first | exact Below.refl _ _ | assumption | (refine below_drewN ?_ _) | (refine Below.drew ?_) | (refine Below.alloc ?_ (by first | omega | (simp; omega) | simp) _) | (refine Below.setCell ?_ (by first | omega | (simp; omega) | simp) _) | (refine below_trans ?_ (by assumption) (by first | omega | (simp; omega) | simp))))⟩
    · have d1 : decide (f ≤ 1024 - p) = false := decide_eq_false h1
      rw [show decide (Placed f p) = false from decide_eq_false (by unfold Placed; omega)]
      go_enter Tryd.func18, Tryd.ntmps18
      go_wp2
      go_ret
      exact ⟨rfl, (by repeat (first | exact Below.refl _ _ | assumption | (refine below_drewN ?_ _) | (refine Below.drew ?_) | (refine Below.alloc ?_ (by first | omega | (simp; omega) | simp) _) | (refine Below.setCell ?_ (by first | omega | (simp; omega) | simp) _) | (refine below_trans ?_ (by assumption) (by first | omega | (simp; omega) | simp))))⟩
  · have d0 : decide (0 ≤ f) = false := decide_eq_false h0
    rw [show decide (Placed f p) = false from decide_eq_false (by unfold Placed; omega)]
    go_enter Tryd.func18, Tryd.ntmps18
    go_wp2
    go_ret
    exact ⟨rfl, (by repeat (first | exact Below.refl _ _ | assumption | (refine below_drewN ?_ _) | (refine Below.drew ?_) | (refine Below.alloc ?_ (by first | omega | (simp; omega) | simp) _) | (refine Below.setCell ?_ (by first | omega | (simp; omega) | simp) _) | (refine below_trans ?_ (by assumption) (by first | omega | (simp; omega) | simp))))⟩
end
/-- a span that lies in block g from o on -/
structure Sp8 (w : World) (g o : Nat) (d : Sd) (A : Option Addr) (ca : Nat) (M : Option Addr) (cm : Nat) : Prop where
  c0 : w.cell? ⟨g, o, none⟩ = some (.int .i64 d.f)
  c1 : w.cell? ⟨g, o + 1, none⟩ = some (.int .i64 d.p)
  c2 : w.cell? ⟨g, o + 2, none⟩ = some (.int .i64 d.z)
  c3 : w.cell? ⟨g, o + 3, none⟩ = some (.int .i64 d.an)
  c4 : w.cell? ⟨g, o + 4, none⟩ = some (.slice A d.aw.length ca)
  c5 : w.cell? ⟨g, o + 5, none⟩ = some (.int .i64 d.mn)
  c6 : w.cell? ⟨g, o + 6, none⟩ = some (.slice M d.mw.length cm)
  c7 : w.cell? ⟨g, o + 7, none⟩ = some (.bool d.s)
theorem Sp8.lt {w : World} {g o ca cm : Nat} {d : Sd} {A M : Option Addr} (h : Sp8 w g o d A ca M cm) : g < w.heap.size := World.block_lt_of_cell? w _ h.c0
theorem Sp8.below {w w' : World} {B g o ca cm : Nat} {d : Sd} {A M : Option Addr} (h : Sp8 w g o d A ca M cm) (hb : Below B w w') (hg : g < B) : Sp8 w' g o d A ca M cm :=
  ⟨((bcell hb).1 _ _ hg).trans h.c0, ((bcell hb).1 _ _ hg).trans h.c1, ((bcell hb).1 _ _ hg).trans h.c2, ((bcell hb).1 _ _ hg).trans h.c3, ((bcell hb).1 _ _ hg).trans h.c4, ((bcell hb).1 _ _ hg).trans h.c5, ((bcell hb).1 _ _ hg).trans h.c6, ((bcell hb).1 _ _ hg).trans h.c7⟩
theorem Sp8.later {w w' : World} {g o ca cm : Nat} {d : Sd} {A M : Option Addr} (h : Sp8 w g o d A ca M cm) (hb : Below w.heap.size w w') : Sp8 w' g o d A ca M cm := h.below hb h.lt
theorem Sp8.new (w : World) (d : Sd) (A : Option Addr) (ca : Nat) (M : Option Addr) (cm : Nat) (t : TypeId) :
    Sp8 (w.alloc (.cells #[.int .i64 d.f, .int .i64 d.p, .int .i64 d.z, .int .i64 d.an, .slice A d.aw.length ca, .int .i64 d.mn, .slice M d.mw.length cm, .bool d.s] t)) w.heap.size 0 d A ca M cm := by
  constructor <;> simp [go_sem]
end Go.Proofs.YtbefjhgegoginaaDoor
