/- What the law TopSlotted wants: the questions whose answers the document gives (begins); plain facts of the span of an object's class. -/
import Derived.Test.YtbefjhgegoginaaDoorS12
import Derived.Test.YtbefjhgegoginaaDoorJ3
import Derived.Test.YtbefjhgegoginaaDoorK1
namespace Go.Proofs.YtbefjhgegoginaaDoor
open Go.RowKit
set_option linter.unusedVariables false
set_option linter.unusedSimpArgs false

set_option maxHeartbeats 1000000 in
theorem begins2_any (w : World) : Calls Tryd.prog 4 #[] w fun e w' => e = .returned (.bool true) ∧ Below w.heap.size w w' := by
  go_enter Tryd.func4, Tryd.ntmps4
  go_wp2_with fail
  go_at_call 14
  refine ((make_ok 70 _ (by omega) (by omega)).mono fun _ _ h => h.got (vs := [0, 0]) rfl).mono ?_
  rintro e w1 ⟨u1, A1, cap1, hu1, rfl, ho1, hb_w1⟩
  obtain ⟨hc_w1, hf_w1⟩ := bcell hb_w1; have hs_w1 := hb_w1.size; (try simp only [World.size_alloc, World.size_setCell, World.size_drew, World.heap_drewN] at hs_w1)
  have hR1 : Hid (Right 70 u1) := Lib.hid (by rw [hu1.out]; exact right70)
  go_wp2_with fail
  go_at_call 12
  refine ((put_in cap1 true 69 (ho1.row.later (by repeat (first | exact Below.refl _ _ | assumption | (refine below_drewN ?_ _) | (refine Below.drew ?_) | (refine Below.alloc ?_ (by first | omega | (simp; omega) | simp) _) | (refine Below.setCell ?_ (by first | omega | (simp; omega) | simp) _) | (refine below_trans ?_ (by assumption) (by first | omega | (simp; omega) | simp))))) hR1.out (by omega) (by omega)).mono fun _ _ h => h.got (vs := [0, 32]) (by rw [hu1.out]; decide)).mono ?_
  rintro e w2 ⟨u2, A2, cap2, hu2, rfl, ho2, hb_w2⟩
  obtain ⟨hc_w2, hf_w2⟩ := bcell hb_w2; have hz_w2_w1_0 : w1.heap.size < w2.heap.size := (by have hzz := hb_w2.size; (try simp only [World.size_alloc, World.size_setCell, World.size_drew, World.heap_drewN] at hzz); omega); have hs_w2 := hb_w2.size; (try simp only [World.size_alloc, World.size_setCell, World.size_drew, World.heap_drewN] at hs_w2)
  have hR2 : Hid (Right 70 u2) := Lib.hid (by rw [hu2.out]; exact right70')
  have t2 : Two w2 w1.heap.size _ _ := (Two.new w1 _ _ _).below hb_w2 (by first | omega | (simp; omega) | simp)
  obtain ⟨q0, q1, _⟩ := id t2
  have s0 : ∀ V, (w2.setCell ⟨w1.heap.size, 0, none⟩ V).cell? ⟨w1.heap.size, 0, none⟩ = some V := fun V => World.cell?_setCell_same _ _ _ q0
  have s1 : ∀ V V', ((w2.setCell ⟨w1.heap.size, 0, none⟩ V).setCell ⟨w1.heap.size, 1, none⟩ V').cell? ⟨w1.heap.size, 1, none⟩ = some V' := fun V V' => (set_two V V' q0 q1).2
  have s2 : ∀ V V', ((w2.setCell ⟨w1.heap.size, 0, none⟩ V).setCell ⟨w1.heap.size, 1, none⟩ V').cell? ⟨w1.heap.size, 0, none⟩ = some V := fun V V' => (set_two V V' q0 q1).1
  have r2 := (ho2.two (g := w1.heap.size) (u := .int .i64 70) (v := .slice A2 u2.length cap2) (by first | omega | (simp; omega) | simp))
  go_wp2_with fail
  go_at_call 15
  refine (count_ok cap2 r2.row hR2.out).mono ?_
  rintro e w3 ⟨rfl, hb_w3⟩
  obtain ⟨hc_w3, hf_w3⟩ := bcell hb_w3; have hz_w3_w1_0 : w1.heap.size < w3.heap.size := (by have hzz := hb_w3.size; (try simp only [World.size_alloc, World.size_setCell, World.size_drew, World.heap_drewN] at hzz); omega); have hs_w3 := hb_w3.size; (try simp only [World.size_alloc, World.size_setCell, World.size_drew, World.heap_drewN] at hs_w3)
  rw [show countTo u2 (70 : Int).toNat = 1 by rw [hu2.out]; decide]
  go_wp2
  go_ret
  exact ⟨rfl, (by repeat (first | exact Below.refl _ _ | assumption | (refine below_drewN ?_ _) | (refine Below.drew ?_) | (refine Below.alloc ?_ (by first | omega | (simp; omega) | simp) _) | (refine Below.setCell ?_ (by first | omega | (simp; omega) | simp) _) | (refine below_trans ?_ (by assumption) (by first | omega | (simp; omega) | simp))))⟩

/-- the class, the size and the pages of so many words -/
theorem class_span (x : Int) (h0 : 1 ≤ x) (h1 : x ≤ 49) : ∃ c z p y : Int, Hid (clsOf x = c) ∧ Hid (pgOf x = p) ∧ Sized p z ∧ ((0 ≤ c ∧ c < 4 ∧ Hid (szOf c = z) ∧ y = 0) ∨ (¬ (0 ≤ c ∧ c < 4) ∧ z = 0 ∧ y = 1)) ∧ ((z = 0 ∧ x ≤ p * 16) ∨ (z ≠ 0 ∧ x ≤ z)) := by
  rcases clsOf_case x h0 with ⟨g, e⟩ | ⟨g0, g, e⟩ | ⟨g0, g, e⟩ | ⟨g0, g, e⟩ | ⟨g, e⟩
  · exact ⟨0, 2, 1, 0, e, by unfold pgOf; exact if_pos (by omega), .inl ⟨.inl rfl, rfl⟩, .inl ⟨by omega, by omega, rfl, rfl⟩, .inr ⟨by omega, g⟩⟩
  · exact ⟨1, 4, 1, 0, e, by unfold pgOf; exact if_pos (by omega), .inl ⟨.inr (.inl rfl), rfl⟩, .inl ⟨by omega, by omega, rfl, rfl⟩, .inr ⟨by omega, g⟩⟩
  · exact ⟨2, 8, 1, 0, e, by unfold pgOf; exact if_pos (by omega), .inl ⟨.inr (.inr (.inl rfl)), rfl⟩, .inl ⟨by omega, by omega, rfl, rfl⟩, .inr ⟨by omega, g⟩⟩
  · exact ⟨3, 16, 1, 0, e, by unfold pgOf; exact if_pos (by omega), .inl ⟨.inr (.inr (.inr rfl)), rfl⟩, .inl ⟨by omega, by omega, rfl, rfl⟩, .inr ⟨by omega, g⟩⟩
  · exact ⟨-1, 0, (x + 15) / 16, 1, e, by unfold pgOf; exact if_neg (by omega), .inr ⟨rfl, by omega, by omega⟩, .inr ⟨by omega, rfl, rfl⟩, .inl ⟨rfl, by omega⟩⟩
theorem tb_wordsN (n : Int) (i : Nat) : tb (wordsN n) i = false := tb_zeros _ _
theorem ok_newSd {f p z : Int} (h1 : Sized p z) (h2 : Placed f p) : Ok1 (newSd f p z) := by
  have hs := h1.slots
  have hr := right_wordsN (slotsOf z) (by omega) (by omega)
  exact ⟨h1, h2, hr, rfl, hr, rfl, fun i _ h => by rw [show tb (newSd f p z).mw i = false from tb_wordsN _ _] at h; cases h⟩
/-- a new span of which a slot is in Alloc -/
def putSd (f p z k : Int) : Sd := ⟨f, p, z, slotsOf z, putW (wordsN (slotsOf z)) k.toNat true, slotsOf z, wordsN (slotsOf z), true⟩
theorem tb_putSd {p z k : Int} (h1 : Sized p z) (h0 : 0 ≤ k) (hk : k < slotsOf z) (j : Nat) : tb (putW (wordsN (slotsOf z)) k.toNat true) j = decide (j = k.toNat) := by
  have hs := h1.slots
  have hr := right_wordsN (slotsOf z) (by omega) (by omega)
  have := hr.long
  rw [tb_putW _ _ _ _ (by omega), tb_wordsN]
  by_cases e : j = k.toNat <;> simp [e]
theorem ok_putSd {f p z k : Int} (h1 : Sized p z) (h2 : Placed f p) (h0 : 0 ≤ k) (hk : k < slotsOf z) : Ok1 (putSd f p z k) := by
  have hs := h1.slots
  have hr := right_wordsN (slotsOf z) (by omega) (by omega)
  exact ⟨h1, h2, right_putW hr k.toNat true (by omega), rfl, hr, rfl, fun i _ h => by rw [show tb (putSd f p z k).mw i = false from tb_wordsN _ _] at h; cases h⟩
/-- the address of a slot -/
theorem at_room {f p z k : Int} (h1 : Sized p z) (h2 : Placed f p) (h0 : 0 ≤ k) (hk : k < slotsOf z) : 0 ≤ f * 16 + k * z ∧ f * 16 + k * z < (f + p) * 16 ∧ f * 16 ≤ f * 16 + k * z ∧ (z ≠ 0 → k * z + z ≤ 16) ∧ (z = 0 → k = 0) := by
  unfold Placed at h2
  rcases h1 with ⟨rfl | rfl | rfl | rfl, rfl⟩ | ⟨rfl, h3, h4⟩
  all_goals
    simp [slotsOf] at hk
    refine ⟨by omega, by omega, by omega, fun _ => by omega, fun _ => by omega⟩
theorem isAt_new {f p z k : Int} (a j : Nat) : isAt a (newSd f p z) j = false := by
  unfold isAt
  rw [show tb (newSd f p z).aw j = false from tb_wordsN _ _, Bool.and_false]
theorem find_new {f p z k : Int} (a : Nat) (h1 : Sized p z) (h2 : Placed f p) (h0 : 0 ≤ k) (hk : k < slotsOf z) (ha : f * 16 + k * z = (a : Int)) : FindE [newSd f p z] a 0 0 10 := by
  obtain ⟨a0, a1, a2, _, _⟩ := at_room h1 h2 h0 hk
  refine .inr (.inr ⟨0, (okl_one _).2 (ok_newSd h1 h2), .inr ⟨0, rfl, by simp, ?_, fun j hj => by omega⟩, .inl ⟨.inl ⟨rfl, fun i _ => ?_⟩, rfl, rfl, rfl⟩⟩)
  · show inP a (newSd f p z) = true
    unfold inP
    exact decide_eq_true ⟨by show f * 16 ≤ (a : Int); omega, by show (a : Int) < (f + p) * 16; omega⟩
  · exact isAt_new (k := k) a i
theorem find_put {f p z k : Int} (a : Nat) (h1 : Sized p z) (h2 : Placed f p) (h0 : 0 ≤ k) (hk : k < slotsOf z) (ha : f * 16 + k * z = (a : Int)) : FindE [putSd f p z k] a 0 k 0 := by
  obtain ⟨a0, a1, a2, _, _⟩ := at_room h1 h2 h0 hk
  refine .inr (.inr ⟨0, (okl_one _).2 (ok_putSd h1 h2 h0 hk), .inr ⟨0, rfl, by simp, ?_, fun j hj => by omega⟩, .inr ⟨k.toNat, .inr ⟨k.toNat, rfl, ?_, ?_, fun j hj => ?_⟩, rfl, by omega, rfl⟩⟩)
  · show inP a (putSd f p z k) = true
    unfold inP
    exact decide_eq_true ⟨by show f * 16 ≤ (a : Int); omega, by show (a : Int) < (f + p) * 16; omega⟩
  · show k.toNat < (slotsOf z).toNat
    omega
  · show isAt a (putSd f p z k) k.toNat = true
    unfold isAt
    rw [show tb (putSd f p z k).aw k.toNat = true by rw [show (putSd f p z k).aw = putW (wordsN (slotsOf z)) k.toNat true from rfl, tb_putSd h1 h0 hk]; simp, Bool.and_true]
    refine decide_eq_true ?_
    show f * 16 + ((k.toNat : Nat) : Int) * z = (a : Int)
    rw [Int.toNat_of_nonneg h0]
    exact ha
  · show isAt a (putSd f p z k) j = false
    unfold isAt
    rw [show tb (putSd f p z k).aw j = false by rw [show (putSd f p z k).aw = putW (wordsN (slotsOf z)) k.toNat true from rfl, tb_putSd h1 h0 hk]; exact decide_eq_false (by omega), Bool.and_false]
/-- the next slot begins where this one ends, or there is none -/
theorem next_put {f p z k x : Int} (h1 : Sized p z) (h2 : Placed f p) (h0 : 0 ≤ k) (hk : k < slotsOf z) (hx : (z = 0 ∧ x ≤ p * 16) ∨ (z ≠ 0 ∧ x ≤ z)) :
    ∃ r y, AddrE (putSd f p z k) (k + 1) r y ∧ ((y = 0 ∧ f * 16 + k * z + x ≤ r ∧ 0 ≤ r ∧ r ≤ 20000) ∨ (y = 1 ∧ r = 0 ∧ f * 16 + k * z + x ≤ (f + p) * 16)) := by
  obtain ⟨a0, a1, a2, a3, a4⟩ := at_room h1 h2 h0 hk
  have hp := h2
  unfold Placed at hp
  have hs := h1.slots
  have hm : (k + 1) * z = k * z + z := by rw [Int.add_mul, Int.one_mul]
  by_cases hn : k + 1 < slotsOf z
  · refine ⟨_, _, .inl ⟨ok_putSd h1 h2 h0 hk, by omega, hn, rfl, rfl⟩, .inl ⟨rfl, ?_⟩⟩
    have b := at_room h1 h2 (k := k + 1) (by omega) hn
    show f * 16 + k * z + x ≤ f * 16 + (k + 1) * z ∧ 0 ≤ f * 16 + (k + 1) * z ∧ f * 16 + (k + 1) * z ≤ 20000
    rw [hm] at b ⊢
    rcases hx with ⟨e, hx⟩ | ⟨e, hx⟩
    · have := b.2.2.2.2 e; omega
    · omega
  · refine ⟨_, _, .inr (.inl ⟨ok_putSd h1 h2 h0 hk, ?_, rfl, rfl⟩), .inr ⟨rfl, rfl, ?_⟩⟩
    · show ¬ (0 ≤ k + 1 ∧ k + 1 < slotsOf z)
      omega
    · rcases hx with ⟨rfl, hx⟩ | ⟨e, hx⟩
      · have := a4 rfl; subst this; omega
      · have := a3 e
        omega
end Go.Proofs.YtbefjhgegoginaaDoor
