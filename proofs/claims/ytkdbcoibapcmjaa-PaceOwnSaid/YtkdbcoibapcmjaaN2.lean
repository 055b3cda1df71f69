/- Contracts of package pace: is a pacer right? -/
import Derived.Test.YtkdbcoibapcmjaaN1
namespace Go.Proofs.Ytkdbcoibapcmjaa
open Go.RowKit
set_option linter.unusedVariables false
set_option linter.unusedSimpArgs false

theorem Row.news {w : World} {l : List Nat} {t : TypeId} {g : Nat} (hw : Words l) (hg : g = w.heap.size) : Row (w.alloc (.cells (vals l).toArray t)) (w.alloc (.cells (vals l).toArray t)).heap.size (some ⟨g, 0, none⟩) l :=
  ⟨hw, fun hl => ⟨g, 0, rfl, by subst hg; simp, fun i hi => by
    subst hg
    rw [Nat.zero_add]
    have := vals_at l i hi
    simp [go_sem, this]⟩⟩
/-- the numbers of a pacer -/
def numsP (p : Pc) : List Nat := [p.least, p.live, p.est, p.room, p.credit, p.done, p.made]
theorem numsP_words {p : Pc} (h : FitP p) : Words (numsP p) := fun x hx => by
  simp only [numsP, List.mem_cons, List.not_mem_nil, or_false] at hx
  rcases hx with rfl | rfl | rfl | rfl | rfl | rfl | rfl
  · exact h.least
  · exact h.live
  · exact h.est
  · exact h.room
  · exact h.credit
  · exact h.done
  · exact h.made
structure LimP (p : Pc) : Prop where
  pct1 : 1 ≤ p.pct
  pct2 : p.pct ≤ 10000
  least1 : 1 ≤ p.least
  len1 : 1 ≤ p.ds.length
  len2 : p.ds.length ≤ 4
  nums : AllM (numsP p)
  ds : AllM p.ds
structure PhaP (p : Pc) : Prop where
  on1 : p.on = true → 1 ≤ p.est ∧ 1 ≤ p.room
  off : p.on = false → p.est = 0 ∧ p.room = 0 ∧ p.credit = 0 ∧ p.done = 0 ∧ p.made = 0 ∧ ∀ d ∈ p.ds, d = 0
theorem okP_iff (p : Pc) : OkP p ↔ LimP p ∧ PhaP p := by
  constructor
  · intro h
    refine ⟨⟨h.pct1, h.pct2, h.least1, h.len1, h.len2, fun x hx => ?_, h.ds⟩, ⟨h.on1, h.off⟩⟩
    simp only [numsP, List.mem_cons, List.not_mem_nil, or_false] at hx
    have := h.least2; have := h.live; have := h.est; have := h.room; have := h.credit; have := h.done; have := h.made
    rcases hx with rfl | rfl | rfl | rfl | rfl | rfl | rfl <;> assumption
  · rintro ⟨h, g⟩
    have hn := h.nums
    refine ⟨h.pct1, h.pct2, h.least1, hn _ (by simp [numsP]), hn _ (by simp [numsP]), h.len1, h.len2, hn _ (by simp [numsP]), hn _ (by simp [numsP]), hn _ (by simp [numsP]), hn _ (by simp [numsP]), hn _ (by simp [numsP]), h.ds, g.on1, g.off⟩
section
variable {w : World} {p : Pc} {A : Option Addr} (c : Nat)
set_option maxHeartbeats 1000000 in
theorem plimited_any (hf : FitP p) (hr : Row w w.heap.size A p.ds) (hl : p.ds.length ≤ 17592186044416) (b : Bool) (hb : b = true ↔ LimP p) :
    Calls Try.prog 42 #[(.agg #[.int .i64 p.pct, .int .u64 (p.least : Nat), .int .u64 (p.live : Nat), .bool p.on, .int .u64 (p.est : Nat), .int .u64 (p.room : Nat), .int .u64 (p.credit : Nat), .int .u64 (p.done : Nat), .int .u64 (p.made : Nat), .slice A p.ds.length c])] w fun e w' => e = .returned (.bool b) ∧ Below w.heap.size w w' := by
  have HW := Lib.hid (numsP_words hf)
  have HB := Lib.hid hb
  have HE := Lib.hid fun (w : World) (A : Option Addr) hr => pexceeds_any (w := w) (A := A) (l := numsP p) 7 hr (by simp [numsP])
  have HD := Lib.hid fun (w : World) hr => pexceeds_any (w := w) (A := A) (l := p.ds) c hr hl
  have HM := Lib.hid (allM_any (numsP p))
  have HMD := Lib.hid (allM_any p.ds)
  clear hf hb
  by_cases h1 : p.pct < 1
  · obtain rfl : b = false := by cases b; rfl; exact absurd (HB.out.1 rfl).pct1 (by omega)
    clear HB HE HD HM HMD HW
    obtain ⟨pct, least, live, on, est, room, credit, done, made, ds⟩ := p
    simp only at *
    have f1 : decide (pct < 1) = true := by simpa using h1
    go_enter Try.func42, Try.ntmps42
    go_wp2
    go_ret
    exact ⟨rfl, (by repeat (first | exact Below.refl _ _ | assumption | (refine below_drewN ?_ _) | (refine Below.drew ?_) | (refine Below.alloc ?_ (by first | omega | (simp; omega) | simp) _) | (refine Below.setCell ?_ (by first | omega | (simp; omega) | simp) _) | (refine below_trans ?_ (by assumption) (by first | omega | (simp; omega) | simp))))⟩
  by_cases h2 : 10000 < p.pct
  · obtain rfl : b = false := by cases b; rfl; exact absurd (HB.out.1 rfl).pct2 (by omega)
    clear HB HE HD HM HMD HW
    obtain ⟨pct, least, live, on, est, room, credit, done, made, ds⟩ := p
    simp only at *
    have f1 : decide (pct < 1) = false := by simpa using h1
    have f2 : decide (10000 < pct) = true := by simpa using h2
    go_enter Try.func42, Try.ntmps42
    go_wp2
    go_ret
    exact ⟨rfl, (by repeat (first | exact Below.refl _ _ | assumption | (refine below_drewN ?_ _) | (refine Below.drew ?_) | (refine Below.alloc ?_ (by first | omega | (simp; omega) | simp) _) | (refine Below.setCell ?_ (by first | omega | (simp; omega) | simp) _) | (refine below_trans ?_ (by assumption) (by first | omega | (simp; omega) | simp))))⟩
  by_cases h3 : p.least < 1
  · obtain rfl : b = false := by cases b; rfl; exact absurd (HB.out.1 rfl).least1 (by omega)
    clear HB HE HD HM HMD HW
    obtain ⟨pct, least, live, on, est, room, credit, done, made, ds⟩ := p
    simp only at *
    have f1 : decide (pct < 1) = false := by simpa using h1
    have f2 : decide (10000 < pct) = false := by simpa using h2
    have f3 : decide ((least : Int) < 1) = true := by simp; omega
    go_enter Try.func42, Try.ntmps42
    go_wp2
    go_ret
    exact ⟨rfl, (by repeat (first | exact Below.refl _ _ | assumption | (refine below_drewN ?_ _) | (refine Below.drew ?_) | (refine Below.alloc ?_ (by first | omega | (simp; omega) | simp) _) | (refine Below.setCell ?_ (by first | omega | (simp; omega) | simp) _) | (refine below_trans ?_ (by assumption) (by first | omega | (simp; omega) | simp))))⟩
  by_cases h4 : p.ds.length < 1
  · obtain rfl : b = false := by cases b; rfl; exact absurd (HB.out.1 rfl).len1 (by omega)
    clear HB HE HD HM HMD HW
    obtain ⟨pct, least, live, on, est, room, credit, done, made, ds⟩ := p
    simp only at *
    have f1 : decide (pct < 1) = false := by simpa using h1
    have f2 : decide (10000 < pct) = false := by simpa using h2
    have f3 : decide ((least : Int) < 1) = false := by simp; omega
    have f4 : decide ((ds.length : Int) < 1) = true := by simp; omega
    clear h4
    go_enter Try.func42, Try.ntmps42
    go_wp2
    go_ret
    exact ⟨rfl, (by repeat (first | exact Below.refl _ _ | assumption | (refine below_drewN ?_ _) | (refine Below.drew ?_) | (refine Below.alloc ?_ (by first | omega | (simp; omega) | simp) _) | (refine Below.setCell ?_ (by first | omega | (simp; omega) | simp) _) | (refine below_trans ?_ (by assumption) (by first | omega | (simp; omega) | simp))))⟩
  by_cases h5 : 4 < p.ds.length
  · obtain rfl : b = false := by cases b; rfl; exact absurd (HB.out.1 rfl).len2 (by omega)
    clear HB HE HD HM HMD HW
    obtain ⟨pct, least, live, on, est, room, credit, done, made, ds⟩ := p
    simp only at *
    have f1 : decide (pct < 1) = false := by simpa using h1
    have f2 : decide (10000 < pct) = false := by simpa using h2
    have f3 : decide ((least : Int) < 1) = false := by simp; omega
    have f4 : decide ((ds.length : Int) < 1) = false := by simp; omega
    have f5 : decide (4 < (ds.length : Int)) = true := by simp; omega
    clear h4 h5
    go_enter Try.func42, Try.ntmps42
    go_wp2
    go_ret
    exact ⟨rfl, (by repeat (first | exact Below.refl _ _ | assumption | (refine below_drewN ?_ _) | (refine Below.drew ?_) | (refine Below.alloc ?_ (by first | omega | (simp; omega) | simp) _) | (refine Below.setCell ?_ (by first | omega | (simp; omega) | simp) _) | (refine below_trans ?_ (by assumption) (by first | omega | (simp; omega) | simp))))⟩
  have f1 : decide (p.pct < 1) = false := by simpa using h1
  have f2 : decide (10000 < p.pct) = false := by simpa using h2
  have f3 : decide ((p.least : Int) < 1) = false := by simp; omega
  have f4 : decide ((p.ds.length : Int) < 1) = false := by simp; omega
  have f5 : decide (4 < (p.ds.length : Int)) = false := by simp; omega
  rcases h6 : (numsP p).any (fun d => decide (1099511627776 < d)) with _ | _
  · rw [h6] at HE
    have H6 := HM.out.1 h6
    rcases h7 : p.ds.any (fun d => decide (1099511627776 < d)) with _ | _
    · rw [h7] at HD
      obtain rfl : b = true := HB.out.2 ⟨by omega, by omega, by omega, by omega, by omega, H6, HMD.out.1 h7⟩
      clear HB HM HMD h1 h2 h3 h4 h5 h6 h7 H6
      obtain ⟨pct, least, live, on, est, room, credit, done, made, ds⟩ := p
      unfold numsP at *
      simp only at *
      go_enter Try.func42, Try.ntmps42
      go_wp2_with fail
      go_at_call 40
      refine (HE.out _ _ (by exact Row.news HW.out (by simp))).mono ?_
      rintro e w1 ⟨rfl, hb_w1⟩
      obtain ⟨hc_w1, hf_w1⟩ := bcell hb_w1; have hz_w1_w_0 : w.heap.size < w1.heap.size := (by have hzz := hb_w1.size; (try simp only [World.size_alloc, World.size_setCell, World.size_drew, World.heap_drewN] at hzz); omega); have hz_w1_w_1 : w.heap.size + 1 < w1.heap.size := (by have hzz := hb_w1.size; (try simp only [World.size_alloc, World.size_setCell, World.size_drew, World.heap_drewN] at hzz); omega); have hs_w1 := hb_w1.size; (try simp only [World.size_alloc, World.size_setCell, World.size_drew, World.heap_drewN] at hs_w1)
      have b1 : Below w.heap.size w w1 := (by repeat (first | exact Below.refl _ _ | assumption | (refine below_drewN ?_ _) | (refine Below.drew ?_) | (refine Below.alloc ?_ (by first | omega | (simp; omega) | simp) _) | (refine Below.setCell ?_ (by first | omega | (simp; omega) | simp) _) | (refine below_trans ?_ (by assumption) (by first | omega | (simp; omega) | simp))))
      go_wp2_with fail
      go_at_call 40
      refine (HD.out _ ((hr.later b1).later (by repeat (first | exact Below.refl _ _ | assumption | (refine below_drewN ?_ _) | (refine Below.drew ?_) | (refine Below.alloc ?_ (by first | omega | (simp; omega) | simp) _) | (refine Below.setCell ?_ (by first | omega | (simp; omega) | simp) _) | (refine below_trans ?_ (by assumption) (by first | omega | (simp; omega) | simp)))))).mono ?_
      rintro e w2 ⟨rfl, hb_w2⟩
      obtain ⟨hc_w2, hf_w2⟩ := bcell hb_w2; have hz_w2_w_0 : w.heap.size < w2.heap.size := (by have hzz := hb_w2.size; (try simp only [World.size_alloc, World.size_setCell, World.size_drew, World.heap_drewN] at hzz); omega); have hz_w2_w_1 : w.heap.size + 1 < w2.heap.size := (by have hzz := hb_w2.size; (try simp only [World.size_alloc, World.size_setCell, World.size_drew, World.heap_drewN] at hzz); omega); have hs_w2 := hb_w2.size; (try simp only [World.size_alloc, World.size_setCell, World.size_drew, World.heap_drewN] at hs_w2)
      go_wp2
      go_ret
      exact ⟨rfl, (by repeat (first | exact Below.refl _ _ | assumption | (refine below_drewN ?_ _) | (refine Below.drew ?_) | (refine Below.alloc ?_ (by first | omega | (simp; omega) | simp) _) | (refine Below.setCell ?_ (by first | omega | (simp; omega) | simp) _) | (refine below_trans ?_ (by assumption) (by first | omega | (simp; omega) | simp))))⟩
    · rw [h7] at HD
      obtain rfl : b = false := by cases b; rfl; exact absurd (HMD.out.2 (HB.out.1 rfl).ds) (by rw [h7]; simp)
      clear HB HM HMD h1 h2 h3 h4 h5 h6 h7 H6
      obtain ⟨pct, least, live, on, est, room, credit, done, made, ds⟩ := p
      unfold numsP at *
      simp only at *
      go_enter Try.func42, Try.ntmps42
      go_wp2_with fail
      go_at_call 40
      refine (HE.out _ _ (by exact Row.news HW.out (by simp))).mono ?_
      rintro e w1 ⟨rfl, hb_w1⟩
      obtain ⟨hc_w1, hf_w1⟩ := bcell hb_w1; have hz_w1_w_0 : w.heap.size < w1.heap.size := (by have hzz := hb_w1.size; (try simp only [World.size_alloc, World.size_setCell, World.size_drew, World.heap_drewN] at hzz); omega); have hz_w1_w_1 : w.heap.size + 1 < w1.heap.size := (by have hzz := hb_w1.size; (try simp only [World.size_alloc, World.size_setCell, World.size_drew, World.heap_drewN] at hzz); omega); have hs_w1 := hb_w1.size; (try simp only [World.size_alloc, World.size_setCell, World.size_drew, World.heap_drewN] at hs_w1)
      have b1 : Below w.heap.size w w1 := (by repeat (first | exact Below.refl _ _ | assumption | (refine below_drewN ?_ _) | (refine Below.drew ?_) | (refine Below.alloc ?_ (by first | omega | (simp; omega) | simp) _) | (refine Below.setCell ?_ (by first | omega | (simp; omega) | simp) _) | (refine below_trans ?_ (by assumption) (by first | omega | (simp; omega) | simp))))
      go_wp2_with fail
      go_at_call 40
      refine (HD.out _ ((hr.later b1).later (by repeat (first | exact Below.refl _ _ | assumption | (refine below_drewN ?_ _) | (refine Below.drew ?_) | (refine Below.alloc ?_ (by first | omega | (simp; omega) | simp) _) | (refine Below.setCell ?_ (by first | omega | (simp; omega) | simp) _) | (refine below_trans ?_ (by assumption) (by first | omega | (simp; omega) | simp)))))).mono ?_
      rintro e w2 ⟨rfl, hb_w2⟩
      obtain ⟨hc_w2, hf_w2⟩ := bcell hb_w2; have hz_w2_w_0 : w.heap.size < w2.heap.size := (by have hzz := hb_w2.size; (try simp only [World.size_alloc, World.size_setCell, World.size_drew, World.heap_drewN] at hzz); omega); have hz_w2_w_1 : w.heap.size + 1 < w2.heap.size := (by have hzz := hb_w2.size; (try simp only [World.size_alloc, World.size_setCell, World.size_drew, World.heap_drewN] at hzz); omega); have hs_w2 := hb_w2.size; (try simp only [World.size_alloc, World.size_setCell, World.size_drew, World.heap_drewN] at hs_w2)
      go_wp2
      go_ret
      exact ⟨rfl, (by repeat (first | exact Below.refl _ _ | assumption | (refine below_drewN ?_ _) | (refine Below.drew ?_) | (refine Below.alloc ?_ (by first | omega | (simp; omega) | simp) _) | (refine Below.setCell ?_ (by first | omega | (simp; omega) | simp) _) | (refine below_trans ?_ (by assumption) (by first | omega | (simp; omega) | simp))))⟩
  · rw [h6] at HE
    obtain rfl : b = false := by cases b; rfl; exact absurd (HM.out.2 (HB.out.1 rfl).nums) (by rw [h6]; simp)
    clear HB HM HMD h1 h2 h3 h4 h5 h6 HD
    obtain ⟨pct, least, live, on, est, room, credit, done, made, ds⟩ := p
    unfold numsP at *
    simp only at *
    go_enter Try.func42, Try.ntmps42
    go_wp2_with fail
    go_at_call 40
    refine (HE.out _ _ (by exact Row.news HW.out (by simp))).mono ?_
    rintro e w1 ⟨rfl, hb_w1⟩
    obtain ⟨hc_w1, hf_w1⟩ := bcell hb_w1; have hz_w1_w_0 : w.heap.size < w1.heap.size := (by have hzz := hb_w1.size; (try simp only [World.size_alloc, World.size_setCell, World.size_drew, World.heap_drewN] at hzz); omega); have hz_w1_w_1 : w.heap.size + 1 < w1.heap.size := (by have hzz := hb_w1.size; (try simp only [World.size_alloc, World.size_setCell, World.size_drew, World.heap_drewN] at hzz); omega); have hs_w1 := hb_w1.size; (try simp only [World.size_alloc, World.size_setCell, World.size_drew, World.heap_drewN] at hs_w1)
    go_wp2
    go_ret
    exact ⟨rfl, (by repeat (first | exact Below.refl _ _ | assumption | (refine below_drewN ?_ _) | (refine Below.drew ?_) | (refine Below.alloc ?_ (by first | omega | (simp; omega) | simp) _) | (refine Below.setCell ?_ (by first | omega | (simp; omega) | simp) _) | (refine below_trans ?_ (by assumption) (by first | omega | (simp; omega) | simp))))⟩
end
end Go.Proofs.Ytkdbcoibapcmjaa
