/- The walk of the law WeakOwn. -/
import Derived.Test.YtkfcnjdjcnfmfaaW9
namespace Go.Proofs.Ytkfcnjdjcnfmfaa
open Go.RowKit
set_option linter.unusedVariables false
set_option linter.unusedSimpArgs false

/-- n words at A can be written, in a block from B on, ahead of E -/
def WCells (w : World) (B E : Nat) (A : Option Addr) (n : Nat) : Prop := ∀ i, i < n → ∃ g t, A = some ⟨g, 0, none⟩ ∧ B ≤ g ∧ g < E ∧ w.cell? ⟨g, i, none⟩ = some (.int .u64 t) ∧ w.frozen? ⟨g, i, none⟩ = false
theorem WCells.of_owns {w : World} {B n cap : Nat} {A : Option Addr} {t : List Nat} (h : OwnsN w B A n cap t) : WCells w B w.heap.size A n := by
  intro i hi
  obtain ⟨g, e, h1, h2, hc⟩ := h.own.at_ (by rw [h.len]; omega)
  obtain ⟨c, f⟩ := hc i (by rw [h.len]; exact hi)
  exact ⟨g, _, e, h1, h2, c, f⟩
theorem WCells.later {w w' : World} {B E n : Nat} {A : Option Addr} (h : WCells w B E A n) (hb : Below w.heap.size w w') : WCells w' B E A n := fun i hi => by
  obtain ⟨g, t, e, hB, hE, c, f⟩ := h i hi
  have hlt : g < w.heap.size := World.block_lt_of_cell? w _ c
  exact ⟨g, t, e, hB, hE, ((bcell hb).1 _ _ hlt).trans c, ((bcell hb).2 _ _ hlt).trans f⟩
theorem WCells.wide {w : World} {B B' E E' n : Nat} {A : Option Addr} (h : WCells w B E A n) (hB : B' ≤ B) (hE : E ≤ E') : WCells w B' E' A n := fun i hi => by
  obtain ⟨g, t, e, h1, h2, c, f⟩ := h i hi
  exact ⟨g, t, e, by omega, by omega, c, f⟩
theorem WCells.set {w : World} {B E n : Nat} {A : Option Addr} (h : WCells w B E A n) (p : Addr) (u : Int) : WCells (w.setCell p (.int .u64 u)) B E A n := fun i hi => by
  obtain ⟨g, t, e, h1, h2, c, f⟩ := h i hi
  by_cases hp : p = ⟨g, i, none⟩
  · subst hp
    exact ⟨g, u, e, h1, h2, World.cell?_setCell_same _ _ _ c, by rw [World.frozen?_setCell]; exact f⟩
  · exact ⟨g, t, e, h1, h2, (World.cell?_setCell_other _ _ _ _ hp).trans c, by rw [World.frozen?_setCell]; exact f⟩
/-- two slices of words stand in block G -/
def Rows2 (w : World) (B G : Nat) : Prop := ∀ k, k < 2 → ∃ A n cap, w.cell? ⟨G, k, none⟩ = some (.slice A n cap) ∧ n ≤ 17592186044417 ∧ WCells w B G A n
theorem Rows2.set {w : World} {B G g o : Nat} (h : Rows2 w B G) (hg : g < G) (u : Int) : Rows2 (w.setCell ⟨g, o, none⟩ (.int .u64 u)) B G := fun k hk => by
  obtain ⟨A, n, cap, c, hn, ht⟩ := h k hk
  exact ⟨A, n, cap, (World.cell?_setCell_other _ _ _ _ (by intro e; injection e; omega)).trans c, hn, ht.set _ _⟩
theorem Rows2.new {w : World} {B : Nat} {A0 A1 : Option Addr} {n0 n1 c0 c1 : Nat} (t : TypeId) (h0 : WCells w B w.heap.size A0 n0) (h1 : WCells w B w.heap.size A1 n1) (l0 : n0 ≤ 17592186044417) (l1 : n1 ≤ 17592186044417) :
    Rows2 (w.alloc (.cells #[.slice A0 n0 c0, .slice A1 n1 c1] t)) B w.heap.size := fun k hk => by
  have hb : Below w.heap.size w (w.alloc (.cells #[.slice A0 n0 c0, .slice A1 n1 c1] t)) := (Below.refl _ _).alloc (Nat.le_refl _) _
  obtain rfl | rfl : k = 0 ∨ k = 1 := by omega
  · exact ⟨A0, n0, c0, by simp [go_sem], l0, h0.later hb⟩
  · exact ⟨A1, n1, c1, by simp [go_sem], l1, h1.later hb⟩
theorem row_litG (W : World) (g x : Nat) (hg : W.heap.size = g) (hx : x < W64) : Row (W.alloc (.cells #[.int .u64 (x : Nat)] 23)) (W.alloc (.cells #[.int .u64 (x : Nat)] 23)).heap.size (some ⟨g, 0, none⟩) [x] := by
  subst hg
  exact row_lit W x hx
set_option maxHeartbeats 8000000 in
theorem weakOwn_walk (A : Option Addr) (cap : Nat) (t : List Nat) (a : Nat) (w : World) (hr : Row w w.heap.size A t) (hcl : t.length ≤ cap) (hl : t.length ≤ 17592186044416) (hnil : A = none → cap = 0) (ha : a < W64) :
    Calls Try.prog 7 #[.slice A t.length cap, .int .u64 (a : Nat)] w fun e w' => e = .returned (.bool true) ∧ Below w.heap.size w w' := by
  obtain ⟨r1, h1, y1, hE1⟩ := MkE.ex t a
  obtain ⟨r3, l3, y3, hE3⟩ := ClrE.ex t [a]
  have hl1 := hE1.len hl
  obtain ⟨hl3, hm3⟩ := hE3.len hl
  have HCP := Lib.hid fun (w : World) hr => xcopyN_any (w := w) (A := A) (t := t) cap hr hl
  unfold CopiedN at HCP
  have HM := Lib.hid fun (w : World) hr => wmake_any (w := w) (A := A) (t := t) cap hr hcl hl hnil a ha _ _ _ hE1
  have HL := Lib.hid fun (w : World) (G : Option Addr) hr hq => wclear_any (w := w) (A := A) (G := G) (t := t) (gs := [a]) cap 1 hr hcl hl hnil hq (by simp) _ _ _ hE3
  simp only [List.length_cons, List.length_nil, Nat.zero_add] at HL
  have HN := Lib.hid fun (w : World) (g : Nat) hg => row_litG w g a hg ha
  have HS := Lib.hid fun (w : World) (A C : Option Addr) (ca cc : Nat) hr hq => xsame_selfN w A C ca cc t hl hr hq
  clear hE1 hE3
  go_enter Try.func7, Try.ntmps7
  go_wp2_with fail
  go_at_call 17
  refine (wlives_any _).mono ?_
  rintro e w1 ⟨rfl, hb_w1⟩
  obtain ⟨hc_w1, hf_w1⟩ := bcell hb_w1; have hs_w1 := hb_w1.size; (try simp only [World.size_alloc, World.size_setCell, World.size_drew, World.heap_drewN] at hs_w1)
  have b1 : Below w.heap.size w w1 := (by repeat (first | exact Below.refl _ _ | assumption | (refine below_drewN ?_ _) | (refine Below.drew ?_) | (refine Below.alloc ?_ (by first | omega | (simp; omega) | simp) _) | (refine Below.setCell ?_ (by first | omega | (simp; omega) | simp) _) | (refine below_trans ?_ (by assumption) (by first | omega | (simp; omega) | simp))))
  go_wp2_with fail
  go_at_call 8
  refine (HCP.out _ ((hr.later b1).later (by repeat (first | exact Below.refl _ _ | assumption | (refine below_drewN ?_ _) | (refine Below.drew ?_) | (refine Below.alloc ?_ (by first | omega | (simp; omega) | simp) _) | (refine Below.setCell ?_ (by first | omega | (simp; omega) | simp) _) | (refine below_trans ?_ (by assumption) (by first | omega | (simp; omega) | simp)))))).mono ?_
  rintro e w2 ⟨g2, c2, rfl, o2, hb_w2⟩
  obtain ⟨hc_w2, hf_w2⟩ := bcell hb_w2; have hs_w2 := hb_w2.size; (try simp only [World.size_alloc, World.size_setCell, World.size_drew, World.heap_drewN] at hs_w2)
  have rk := o2.row
  have b2 : Below w.heap.size w w2 := (by repeat (first | exact Below.refl _ _ | assumption | (refine below_drewN ?_ _) | (refine Below.drew ?_) | (refine Below.alloc ?_ (by first | omega | (simp; omega) | simp) _) | (refine Below.setCell ?_ (by first | omega | (simp; omega) | simp) _) | (refine below_trans ?_ (by assumption) (by first | omega | (simp; omega) | simp))))
  go_wp2_with fail
  go_at_call 9
  refine (HM.out _ ((hr.later b2).later (by repeat (first | exact Below.refl _ _ | assumption | (refine below_drewN ?_ _) | (refine Below.drew ?_) | (refine Below.alloc ?_ (by first | omega | (simp; omega) | simp) _) | (refine Below.setCell ?_ (by first | omega | (simp; omega) | simp) _) | (refine below_trans ?_ (by assumption) (by first | omega | (simp; omega) | simp)))))).mono ?_
  rintro e w3 ⟨B3, c3, rfl, o3, hb_w3⟩
  obtain ⟨hc_w3, hf_w3⟩ := bcell hb_w3; have hs_w3 := hb_w3.size; (try simp only [World.size_alloc, World.size_setCell, World.size_drew, World.heap_drewN] at hs_w3)
  have b23 : Below w2.heap.size w2 w3 := (by repeat (first | exact Below.refl _ _ | assumption | (refine below_drewN ?_ _) | (refine Below.drew ?_) | (refine Below.alloc ?_ (by first | omega | (simp; omega) | simp) _) | (refine Below.setCell ?_ (by first | omega | (simp; omega) | simp) _) | (refine below_trans ?_ (by assumption) (by first | omega | (simp; omega) | simp))))
  have b3 : Below w.heap.size w w3 := below_trans b2 b23 (by first | omega | (simp; omega) | simp)
  go_wp2_with fail
  go_at_call 13
  refine (HL.out _ _ ((hr.later b3).later (by repeat (first | exact Below.refl _ _ | assumption | (refine below_drewN ?_ _) | (refine Below.drew ?_) | (refine Below.alloc ?_ (by first | omega | (simp; omega) | simp) _) | (refine Below.setCell ?_ (by first | omega | (simp; omega) | simp) _) | (refine below_trans ?_ (by assumption) (by first | omega | (simp; omega) | simp))))) (by exact HN.out _ _ rfl)).mono ?_
  rintro e w5 ⟨B5, c5, C5, d5, rfl, o5, p5, _, hb_w5⟩
  obtain ⟨hc_w5, hf_w5⟩ := bcell hb_w5; have hs_w5 := hb_w5.size; (try simp only [World.size_alloc, World.size_setCell, World.size_drew, World.heap_drewN] at hs_w5)
  have b35 : Below w3.heap.size w3 w5 := (by repeat (first | exact Below.refl _ _ | assumption | (refine below_drewN ?_ _) | (refine Below.drew ?_) | (refine Below.alloc ?_ (by first | omega | (simp; omega) | simp) _) | (refine Below.setCell ?_ (by first | omega | (simp; omega) | simp) _) | (refine below_trans ?_ (by assumption) (by first | omega | (simp; omega) | simp))))
  have b25 : Below w2.heap.size w2 w5 := below_trans b23 b35 (by first | omega | (simp; omega) | simp)
  have T3 : WCells w5 w2.heap.size w5.heap.size B3 r1.length := ((WCells.of_owns o3).later b35).wide (by first | omega | (simp; omega) | simp) (by first | omega | (simp; omega) | simp)
  have T5 : WCells w5 w2.heap.size w5.heap.size B5 r3.length := (WCells.of_owns o5).wide (by first | omega | (simp; omega) | simp) (by first | omega | (simp; omega) | simp)
  have R0 := Lib.hid fun (c0 c1 : Nat) (t : TypeId) => Rows2.new (c0 := c0) (c1 := c1) t T3 T5 (by omega) (by omega)
  clear T3 T5 o2 o3 o5 p5 hc_w1 hf_w1 hc_w2 hf_w2 hc_w3 hf_w3 hc_w5 hf_w5
  have rl := hr.later b2
  clear hr b35 b23
  go_wp2_with fail
  go_loopw [38] (fun ii wr => ∃ k : Nat, ii = .int .i64 (k : Nat) ∧ k ≤ 2 ∧ Rows2 wr w2.heap.size w5.heap.size ∧ w5.heap.size + 1 ≤ wr.heap.size ∧ Below w2.heap.size w2 wr) (fun ii _ => 2 - (intOf ii).toNat)
  case atStart => exact ⟨0, rfl, by omega, R0.out _ _ _, (by first | omega | (simp; omega) | simp), (by repeat (first | exact Below.refl _ _ | assumption | (refine below_drewN ?_ _) | (refine Below.drew ?_) | (refine Below.alloc ?_ (by first | omega | (simp; omega) | simp) _) | (refine Below.setCell ?_ (by first | omega | (simp; omega) | simp) _) | (refine below_trans ?_ (by assumption) (by first | omega | (simp; omega) | simp))))⟩
  case round =>
    obtain ⟨k, rfl, hk, hR, hsz, hb_wr⟩ := hrel
    have hsr := hb_wr.size
    by_cases hlt : k < 2
    · obtain ⟨Am, n, cm, cG, hn, hT⟩ := hR k hlt
      have HR := Lib.hid hR
      have HTg := Lib.hid hT
      clear hR hT
      go_wp2_with fail
      generalize wr = wD at *
      go_loopw [44] (fun jj wr => ∃ j : Nat, jj = .int .i64 (j : Nat) ∧ j ≤ n ∧ Rows2 wr w2.heap.size w5.heap.size ∧ WCells wr w2.heap.size w5.heap.size Am n ∧ w5.heap.size + 1 ≤ wr.heap.size ∧ Below w2.heap.size w2 wr) (fun jj _ => n - (intOf jj).toNat)
      case atStart => exact ⟨0, rfl, Nat.zero_le _, HR.out, HTg.out, hsz, hb_wr⟩
      case round =>
        clear HR HTg hsz hb_wr hsr cG
        obtain ⟨j, rfl, hj, hR, hT, hsz, hb_wr⟩ := hrel
        have hsr := hb_wr.size
        have HR := Lib.hid hR
        have HTg := Lib.hid hT
        clear hR
        by_cases hjl : j < n
        · obtain ⟨g, tt, rfl, hgB, hgE, c, fj⟩ := hT j hjl
          clear hT
          have i1 : (j : Int) < (n : Int) := by omega
          have i2 : (0 : Int) ≤ (j : Int) := by omega
          go_wp2
          go_roundw
          case rel => exact ⟨j + 1, by go_num, by omega, HR.out.set hgE _, HTg.out.set _ _, (by first | omega | (simp; omega) | simp), (by repeat (first | exact Below.refl _ _ | assumption | (refine below_drewN ?_ _) | (refine Below.drew ?_) | (refine Below.alloc ?_ (by first | omega | (simp; omega) | simp) _) | (refine Below.setCell ?_ (by first | omega | (simp; omega) | simp) _) | (refine below_trans ?_ (by assumption) (by first | omega | (simp; omega) | simp))))⟩
          case measure => simp [intOf]; omega
        · clear hT
          go_wp2
          go_roundw
          case rel => exact ⟨k + 1, by go_num, by omega, HR.out, hsz, hb_wr⟩
          case measure => simp [intOf]; omega
    · obtain rfl : k = 2 := by omega
      clear hR
      have bw : Below w.heap.size w wr := below_trans b2 hb_wr (by first | omega | (simp; omega) | simp)
      go_wp2_with fail
      go_at_call 18
      refine (HS.out _ _ _ _ _ ((rl.later hb_wr).later (by repeat (first | exact Below.refl _ _ | assumption | (refine below_drewN ?_ _) | (refine Below.drew ?_) | (refine Below.alloc ?_ (by first | omega | (simp; omega) | simp) _) | (refine Below.setCell ?_ (by first | omega | (simp; omega) | simp) _) | (refine below_trans ?_ (by assumption) (by first | omega | (simp; omega) | simp))))) ((rk.later hb_wr).later (by repeat (first | exact Below.refl _ _ | assumption | (refine below_drewN ?_ _) | (refine Below.drew ?_) | (refine Below.alloc ?_ (by first | omega | (simp; omega) | simp) _) | (refine Below.setCell ?_ (by first | omega | (simp; omega) | simp) _) | (refine below_trans ?_ (by assumption) (by first | omega | (simp; omega) | simp)))))).mono ?_
      rintro e w9 ⟨rfl, hb_w9⟩
      go_wp2
      go_ret
      exact ⟨rfl, (by repeat (first | exact Below.refl _ _ | assumption | (refine below_drewN ?_ _) | (refine Below.drew ?_) | (refine Below.alloc ?_ (by first | omega | (simp; omega) | simp) _) | (refine Below.setCell ?_ (by first | omega | (simp; omega) | simp) _) | (refine below_trans ?_ (by assumption) (by first | omega | (simp; omega) | simp))))⟩
end Go.Proofs.Ytkfcnjdjcnfmfaa
