/- Spans that lie in memory one behind the other; whether a list of them is right. -/
import Derived.Test.YtbefjhgegoginaaDoorS2
namespace Go.Proofs.YtbefjhgegoginaaDoor
open Go.RowKit
set_option linter.unusedVariables false
set_option linter.unusedSimpArgs false

def sd0 : Sd := ⟨0, 0, 0, 0, [], 0, [], false⟩
def nth (l : List Sd) (i : Nat) : Sd := l.getD i sd0
/-- the slice at A holds the spans l, ahead of block B -/
structure SRow (w : World) (B : Nat) (A : Option Addr) (l : List Sd) : Prop where
  at_ : 0 < l.length → ∃ b off, A = some ⟨b, off, none⟩ ∧ b < B ∧ ∀ i, i < l.length → ∃ Aa ca Am cm, Sp8 w b (off + i * 8) (nth l i) Aa ca Am cm ∧ Row w B Aa (nth l i).aw ∧ Row w B Am (nth l i).mw
theorem SRow.keep {w w' : World} {B : Nat} {A : Option Addr} {l : List Sd} (h : SRow w B A l) (hk : ∀ b o, b < B → w'.cell? ⟨b, o, none⟩ = w.cell? ⟨b, o, none⟩) : SRow w' B A l :=
  ⟨fun hl => by
    obtain ⟨b, off, e, hb, hc⟩ := h.at_ hl
    refine ⟨b, off, e, hb, fun i hi => ?_⟩
    obtain ⟨Aa, ca, Am, cm, h1, h2, h3⟩ := hc i hi
    exact ⟨Aa, ca, Am, cm, ⟨(hk _ _ hb).trans h1.c0, (hk _ _ hb).trans h1.c1, (hk _ _ hb).trans h1.c2, (hk _ _ hb).trans h1.c3, (hk _ _ hb).trans h1.c4, (hk _ _ hb).trans h1.c5, (hk _ _ hb).trans h1.c6, (hk _ _ hb).trans h1.c7⟩, h2.keep hk, h3.keep hk⟩⟩
theorem SRow.more {w : World} {B B' : Nat} {A : Option Addr} {l : List Sd} (h : SRow w B A l) (hB : B ≤ B') : SRow w B' A l :=
  ⟨fun hl => by
    obtain ⟨b, off, e, hb, hc⟩ := h.at_ hl
    refine ⟨b, off, e, by omega, fun i hi => ?_⟩
    obtain ⟨Aa, ca, Am, cm, h1, h2, h3⟩ := hc i hi
    exact ⟨Aa, ca, Am, cm, h1, h2.more hB, h3.more hB⟩⟩
theorem SRow.below {w w' : World} {B : Nat} {A : Option Addr} {l : List Sd} (h : SRow w B A l) (hb : Below B w w') : SRow w' B A l := h.keep fun b o hlt => hb.cell (p := ⟨b, o, none⟩) hlt
theorem SRow.later {w w' : World} {A : Option Addr} {l : List Sd} (h : SRow w w.heap.size A l) (hb : Below w.heap.size w w') : SRow w' w'.heap.size A l := (h.below hb).more hb.size
theorem SRow.nil (w : World) (B : Nat) (A : Option Addr) : SRow w B A [] := ⟨fun h => by simp at h⟩
/-- the first k of some spans are right; where the next one may begin -/
def OkP (l : List Sd) (k : Nat) : Prop := (∀ i, i < k → Ok1 (nth l i)) ∧ ∀ i, i + 1 < k → (nth l i).f + (nth l i).p ≤ (nth l (i + 1)).f
def endAt (l : List Sd) : Nat → Int
  | 0 => 0
  | k + 1 => (nth l k).f + (nth l k).p
def OkL (l : List Sd) : Prop := l.length ≤ 256 ∧ OkP l l.length
theorem OkP.end_ {l : List Sd} {k : Nat} (h : OkP l k) : 0 ≤ endAt l k ∧ endAt l k ≤ 1024 := by
  cases k with
  | zero => exact ⟨Int.le_refl _, by show (0 : Int) ≤ _; omega⟩
  | succ k =>
    have h1 := (h.1 k (by omega))
    have := h1.placed
    have := h1.sized.slots
    unfold Placed at this
    show 0 ≤ (nth l k).f + (nth l k).p ∧ _
    have h2 := h1.placed
    unfold Placed at h2
    constructor
    · omega
    · show (nth l k).f + (nth l k).p ≤ 1024
      omega
theorem OkP.next {l : List Sd} {k : Nat} (h : OkP l k) (h1 : Ok1 (nth l k)) (h2 : endAt l k ≤ (nth l k).f) : OkP l (k + 1) := by
  refine ⟨fun i hi => ?_, fun i hi => ?_⟩
  · by_cases e : i = k
    · rw [e]; exact h1
    · exact h.1 i (by omega)
  · by_cases e : i + 1 = k
    · subst e
      exact h2
    · exact h.2 i (by omega)
theorem OkP.at_ {l : List Sd} {k n : Nat} (h : OkP l n) (hk : k < n) : Ok1 (nth l k) ∧ endAt l k ≤ (nth l k).f := by
  refine ⟨h.1 k hk, ?_⟩
  cases k with
  | zero => exact (h.1 0 hk).placed.1
  | succ k => exact h.2 k hk
section
variable {w : World} {A : Option Addr} {l : List Sd} (cap : Nat)
set_option maxHeartbeats 1000000 in
theorem scheck_any (hr : SRow w w.heap.size A l) (hl : l.length ≤ 17592186044416) (y : Int) (hy : (OkL l ∧ y = 0) ∨ (¬ OkL l ∧ y = 2)) :
    Calls Tryd.prog 20 #[.slice A l.length cap] w fun e w' => e = .returned (.int .i64 y) ∧ Below w.heap.size w w' := by
  by_cases hlen : 256 < l.length
  · obtain rfl : y = 2 := by
      rcases hy with ⟨h, _⟩ | ⟨_, h⟩
      · exact absurd h.1 (by omega)
      · exact h
    have d1 : decide (256 < (l.length : Int)) = true := decide_eq_true (by omega)
    clear hy
    go_enter Tryd.func20, Tryd.ntmps20
    go_wp2
    go_ret
    exact ⟨rfl, (by repeat (first | exact Below.refl _ _ | assumption | (refine below_drewN ?_ _) | (refine Below.drew ?_) | (refine Below.alloc ?_ (by first | omega | (simp; omega) | simp) _) | (refine Below.setCell ?_ (by first | omega | (simp; omega) | simp) _) | (refine below_trans ?_ (by assumption) (by first | omega | (simp; omega) | simp))))⟩
  · have d1 : decide (256 < (l.length : Int)) = false := decide_eq_false (by omega)
    have hY := Lib.hid hy
    clear hy
    go_enter Tryd.func20, Tryd.ntmps20
    go_wp2
    go_loopw [3, 11] (fun c ii wr => ∃ k : Nat, ii = .int .i64 (k : Nat) ∧ k ≤ l.length ∧ c = .int .i64 (endAt l k) ∧ OkP l k ∧ Below w.heap.size w wr) (fun _ ii _ => l.length - (intOf ii).toNat)
    case atStart => exact ⟨0, rfl, Nat.zero_le _, rfl, ⟨fun i hi => by omega, fun i hi => by omega⟩, (by repeat (first | exact Below.refl _ _ | assumption | (refine below_drewN ?_ _) | (refine Below.drew ?_) | (refine Below.alloc ?_ (by first | omega | (simp; omega) | simp) _) | (refine Below.setCell ?_ (by first | omega | (simp; omega) | simp) _) | (refine below_trans ?_ (by assumption) (by first | omega | (simp; omega) | simp))))⟩
    case round =>
      obtain ⟨k, rfl, hk, rfl, hA, hb_wr⟩ := hrel
      have hsr := hb_wr.size
      by_cases hlt : k < l.length
      · obtain ⟨b, off, rfl, hbb, hc⟩ := (hr.later hb_wr).at_ (by omega)
        obtain ⟨Aa, ca, Am, cm, c8, ra, rm⟩ := hc k hlt
        obtain ⟨d, hd⟩ : ∃ d, Hid (nth l k = d) := ⟨_, rfl⟩
        rw [hd.out] at c8 ra rm
        obtain ⟨e, he⟩ : ∃ e, Hid (endAt l k = e) := ⟨_, rfl⟩
        have hen := hA.end_
        rw [he.out] at hen ⊢
        have HA := Lib.hid hA
        obtain ⟨c0, c1, c2, c3, c4, c5, c6, c7⟩ := id c8
        clear hc hA
        by_cases h1 : Ok1 d
        · have H1 := Lib.hid h1
          have hs := h1.sized.slots
          have hp := h1.placed
          unfold Placed at hp
          obtain ⟨p0, p1⟩ := hp
          by_cases h2 : e ≤ d.f
          · have d2 : decide (d.f < e) = false := decide_eq_false (by omega)
            have HN : Hid (OkP l (k + 1)) := Lib.hid (HA.out.next (by rw [hd.out]; exact h1) (by rw [he.out, hd.out]; exact h2))
            have HE : Hid (endAt l (k + 1) = d.f + d.p) := Lib.hid (by show (nth l k).f + (nth l k).p = _; rw [hd.out])
            have V := Lib.hid fun (w : World) hA hM => svalid_any (w := w) (d := d) (A := Aa) (M := Am) ca cm hA hM true ⟨fun _ => H1.out, fun _ => rfl⟩
            have G := Lib.hid fun (w : World) => sbehind_any (w := w) d Aa ca Am cm (by omega) (by omega)
            clear h1 hs
            obtain ⟨f, p, z, an, aw, mn, mw, s⟩ := d
            simp only at *
            unfold spv at V G
            simp only at V G
            go_wp2_with (first
              | (go_at_call 33; refine (V.out _ (ra.later (by repeat (first | exact Below.refl _ _ | assumption | (refine below_drewN ?_ _) | (refine Below.drew ?_) | (refine Below.alloc ?_ (by first | omega | (simp; omega) | simp) _) | (refine Below.setCell ?_ (by first | omega | (simp; omega) | simp) _) | (refine below_trans ?_ (by assumption) (by first | omega | (simp; omega) | simp))))) (rm.later (by repeat (first | exact Below.refl _ _ | assumption | (refine below_drewN ?_ _) | (refine Below.drew ?_) | (refine Below.alloc ?_ (by first | omega | (simp; omega) | simp) _) | (refine Below.setCell ?_ (by first | omega | (simp; omega) | simp) _) | (refine below_trans ?_ (by assumption) (by first | omega | (simp; omega) | simp)))))).mono ?_; rintro e w1 ⟨rfl, hb_w1⟩; obtain ⟨hc_w1, hf_w1⟩ := bcell hb_w1; have hz_w1_wr_0 : wr.heap.size < w1.heap.size := (by have hzz := hb_w1.size; (try simp only [World.size_alloc, World.size_setCell, World.size_drew, World.heap_drewN] at hzz); omega); have hs_w1 := hb_w1.size; (try simp only [World.size_alloc, World.size_setCell, World.size_drew, World.heap_drewN] at hs_w1))
              | (go_at_call 25; refine (G.out _).mono ?_; rintro e w2 ⟨rfl, hb_w2⟩; obtain ⟨hc_w2, hf_w2⟩ := bcell hb_w2; have hz_w2_wr_0 : wr.heap.size < w2.heap.size := (by have hzz := hb_w2.size; (try simp only [World.size_alloc, World.size_setCell, World.size_drew, World.heap_drewN] at hzz); omega); have hs_w2 := hb_w2.size; (try simp only [World.size_alloc, World.size_setCell, World.size_drew, World.heap_drewN] at hs_w2)))
            go_roundw
            case rel => exact ⟨k + 1, by go_num, by omega, by rw [HE.out], HN.out, (by repeat (first | exact Below.refl _ _ | assumption | (refine below_drewN ?_ _) | (refine Below.drew ?_) | (refine Below.alloc ?_ (by first | omega | (simp; omega) | simp) _) | (refine Below.setCell ?_ (by first | omega | (simp; omega) | simp) _) | (refine below_trans ?_ (by assumption) (by first | omega | (simp; omega) | simp))))⟩
            case measure => simp [intOf]; omega
          · have d2 : decide (d.f < e) = true := decide_eq_true (by omega)
            obtain rfl : y = 2 := by
              rcases hY.out with ⟨h, _⟩ | ⟨_, h⟩
              · have := (h.2.at_ hlt).2
                rw [he.out, hd.out] at this
                exact absurd this h2
              · exact h
            have V := Lib.hid fun (w : World) hA hM => svalid_any (w := w) (d := d) (A := Aa) (M := Am) ca cm hA hM true ⟨fun _ => H1.out, fun _ => rfl⟩
            clear h1 hs h2
            obtain ⟨f, p, z, an, aw, mn, mw, s⟩ := d
            simp only at *
            unfold spv at V
            simp only at V
            go_wp2_with (go_at_call 33; refine (V.out _ (ra.later (by repeat (first | exact Below.refl _ _ | assumption | (refine below_drewN ?_ _) | (refine Below.drew ?_) | (refine Below.alloc ?_ (by first | omega | (simp; omega) | simp) _) | (refine Below.setCell ?_ (by first | omega | (simp; omega) | simp) _) | (refine below_trans ?_ (by assumption) (by first | omega | (simp; omega) | simp))))) (rm.later (by repeat (first | exact Below.refl _ _ | assumption | (refine below_drewN ?_ _) | (refine Below.drew ?_) | (refine Below.alloc ?_ (by first | omega | (simp; omega) | simp) _) | (refine Below.setCell ?_ (by first | omega | (simp; omega) | simp) _) | (refine below_trans ?_ (by assumption) (by first | omega | (simp; omega) | simp)))))).mono ?_; rintro e w1 ⟨rfl, hb_w1⟩; obtain ⟨hc_w1, hf_w1⟩ := bcell hb_w1; have hz_w1_wr_0 : wr.heap.size < w1.heap.size := (by have hzz := hb_w1.size; (try simp only [World.size_alloc, World.size_setCell, World.size_drew, World.heap_drewN] at hzz); omega); have hs_w1 := hb_w1.size; (try simp only [World.size_alloc, World.size_setCell, World.size_drew, World.heap_drewN] at hs_w1))
            go_ret
            exact ⟨rfl, (by repeat (first | exact Below.refl _ _ | assumption | (refine below_drewN ?_ _) | (refine Below.drew ?_) | (refine Below.alloc ?_ (by first | omega | (simp; omega) | simp) _) | (refine Below.setCell ?_ (by first | omega | (simp; omega) | simp) _) | (refine below_trans ?_ (by assumption) (by first | omega | (simp; omega) | simp))))⟩
        · obtain rfl : y = 2 := by
            rcases hY.out with ⟨h, _⟩ | ⟨_, h⟩
            · have := (h.2.at_ hlt).1
              rw [hd.out] at this
              exact absurd this h1
            · exact h
          have V := Lib.hid fun (w : World) hA hM => svalid_any (w := w) (d := d) (A := Aa) (M := Am) ca cm hA hM false ⟨fun h => (by cases h), fun h => absurd h h1⟩
          clear h1
          obtain ⟨f, p, z, an, aw, mn, mw, s⟩ := d
          simp only at *
          unfold spv at V
          simp only at V
          go_wp2_with (go_at_call 33; refine (V.out _ (ra.later (by repeat (first | exact Below.refl _ _ | assumption | (refine below_drewN ?_ _) | (refine Below.drew ?_) | (refine Below.alloc ?_ (by first | omega | (simp; omega) | simp) _) | (refine Below.setCell ?_ (by first | omega | (simp; omega) | simp) _) | (refine below_trans ?_ (by assumption) (by first | omega | (simp; omega) | simp))))) (rm.later (by repeat (first | exact Below.refl _ _ | assumption | (refine below_drewN ?_ _) | (refine Below.drew ?_) | (refine Below.alloc ?_ (by first | omega | (simp; omega) | simp) _) | (refine Below.setCell ?_ (by first | omega | (simp; omega) | simp) _) | (refine below_trans ?_ (by assumption) (by first | omega | (simp; omega) | simp)))))).mono ?_; rintro e w1 ⟨rfl, hb_w1⟩; obtain ⟨hc_w1, hf_w1⟩ := bcell hb_w1; have hz_w1_wr_0 : wr.heap.size < w1.heap.size := (by have hzz := hb_w1.size; (try simp only [World.size_alloc, World.size_setCell, World.size_drew, World.heap_drewN] at hzz); omega); have hs_w1 := hb_w1.size; (try simp only [World.size_alloc, World.size_setCell, World.size_drew, World.heap_drewN] at hs_w1))
          go_ret
          exact ⟨rfl, (by repeat (first | exact Below.refl _ _ | assumption | (refine below_drewN ?_ _) | (refine Below.drew ?_) | (refine Below.alloc ?_ (by first | omega | (simp; omega) | simp) _) | (refine Below.setCell ?_ (by first | omega | (simp; omega) | simp) _) | (refine below_trans ?_ (by assumption) (by first | omega | (simp; omega) | simp))))⟩
      · obtain rfl : k = l.length := by omega
        obtain rfl : y = 0 := by
          rcases hY.out with ⟨_, h⟩ | ⟨h, _⟩
          · exact h
          · exact absurd ⟨by omega, hA⟩ h
        go_wp2
        go_ret
        exact ⟨rfl, (by repeat (first | exact Below.refl _ _ | assumption | (refine below_drewN ?_ _) | (refine Below.drew ?_) | (refine Below.alloc ?_ (by first | omega | (simp; omega) | simp) _) | (refine Below.setCell ?_ (by first | omega | (simp; omega) | simp) _) | (refine below_trans ?_ (by assumption) (by first | omega | (simp; omega) | simp))))⟩
end
end Go.Proofs.YtbefjhgegoginaaDoor
