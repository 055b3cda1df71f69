/- The walks of the laws WeakOne, WeakClears. -/
import Derived.Test.YtkfcnjdjcnfmfaaW8
namespace Go.Proofs.Ytkfcnjdjcnfmfaa
open Go.RowKit
set_option linter.unusedVariables false
set_option linter.unusedSimpArgs false

theorem MkE.words {t r : List Nat} {a h : Nat} {y : Int} (hE : MkE t a r h y) (hy : y = 0) : a ≠ 0 ∧ OkW r ∧ hin r a ≠ 0 ∧ h = hin r a := by
  rcases hE with ⟨_, _, _, e⟩ | ⟨_, _, _, _, e⟩ | ⟨h1, h2, h3, rfl, rfl, _⟩ | ⟨_, _, _, _, _, _, e⟩ | ⟨h1, h2, h3, h4, rfl, rfl, _⟩
  · rw [hy] at e; cases e
  · rw [hy] at e; cases e
  · exact ⟨h2, h1, h3, rfl⟩
  · rw [hy] at e; cases e
  · have e : hin (t ++ [a]) a = t.length + 1 := hin_hit h2 (by simp) (by rw [getD_snoc, if_neg (by omega), if_pos rfl]) (fun j hj => by rw [getD_snoc, if_pos hj]; exact hin_none h2 h3 j hj)
    exact ⟨h2, okW_snoc h1 h2 h3 h4, by rw [e]; omega, e.symm⟩
theorem MkE.zero {t r : List Nat} {a h : Nat} {y : Int} (hE : MkE t a r h y) (hy : y ≠ 0) : h = 0 := by
  rcases hE with ⟨_, _, e, _⟩ | ⟨_, _, _, e, _⟩ | ⟨h1, h2, h3, rfl, rfl, e⟩ | ⟨_, _, _, _, _, e, _⟩ | ⟨h1, h2, h3, h4, rfl, rfl, e⟩
  · exact e
  · exact e
  · exact absurd e hy
  · exact e
  · exact absurd e hy
set_option maxHeartbeats 4000000 in
theorem weakOne_walk (A : Option Addr) (cap : Nat) (t : List Nat) (a : Nat) (w : World) (hr : Row w w.heap.size A t) (hcl : t.length ≤ cap) (hl : t.length ≤ 17592186044416) (hn : A = none → cap = 0) (ha : a < W64) :
    Calls Try.prog 5 #[.slice A t.length cap, .int .u64 (a : Nat)] w fun e w' => e = .returned (.bool true) ∧ Below w.heap.size w w' := by
  obtain ⟨r1, h1, y1, hE1⟩ := MkE.ex t a
  have hl1 := hE1.len hl
  have HM := Lib.hid fun (w : World) hr => wmake_any (w := w) (A := A) (t := t) cap hr hcl hl hn a ha _ _ _ hE1
  by_cases hy : y1 = 0
  · obtain ⟨e1, e2, e3, e4⟩ := hE1.words hy
    have HM2 := Lib.hid fun (w : World) (A : Option Addr) (cap : Nat) hr hc hn => wmake_any (w := w) (A := A) (t := r1) cap hr hc hl1 hn a ha r1 h1 0 (.inr (.inr (.inl ⟨e2, e1, e3, rfl, e4, rfl⟩)))
    obtain ⟨_, p1, p2, _⟩ := hin_pos e3
    rw [← e4] at p1 p2 e3
    have HG := Lib.hid fun (w : World) (A : Option Addr) (cap : Nat) hr hc => wget_any (w := w) (A := A) (t := r1) cap hr hc hl1 (h1 : Nat) (by omega) (by omega) a 0 (.inr (.inr ⟨e2, by omega, by omega, by rw [show ((h1 : Int) - 1).toNat = h1 - 1 by omega]; exact p2.symm, rfl⟩))
    have HH := Lib.hid fun (w : World) (A : Option Addr) (cap : Nat) hr hc => whan_any (w := w) (A := A) (t := r1) cap hr hc hl1 a h1 0 (.inr (.inr (.inr ⟨e2, e1, by rw [← e4]; exact e3, e4, rfl⟩)))
    have HC := Lib.hid fun (w : World) (A : Option Addr) (cap : Nat) hr hc => wcheck_any (w := w) (A := A) (t := r1) cap hr hc hl1 0 (.inl ⟨e2, rfl⟩)
    have HS := Lib.hid fun (w : World) (A C : Option Addr) (ca cc : Nat) hr hq => xsame_selfN w A C ca cc r1 hl1 hr hq
    have n1 : ((h1 : Int) == (h1 : Int)) = true := by simp
    have n2 : ((a : Int) == (a : Int)) = true := by simp
    subst hy
    clear hE1 e1 e2 e3 e4 p1 p2
    go_enter Try.func5, Try.ntmps5
    go_wp2_with fail
    go_at_call 17
    refine (wlives_any _).mono ?_
    rintro e w0 ⟨rfl, hb_w0⟩
    obtain ⟨hc_w0, hf_w0⟩ := bcell hb_w0; have hs_w0 := hb_w0.size; (try simp only [World.size_alloc, World.size_setCell, World.size_drew, World.heap_drewN] at hs_w0)
    have b0 : Below w.heap.size w w0 := (by repeat (first | exact Below.refl _ _ | assumption | (refine below_drewN ?_ _) | (refine Below.drew ?_) | (refine Below.alloc ?_ (by first | omega | (simp; omega) | simp) _) | (refine Below.setCell ?_ (by first | omega | (simp; omega) | simp) _) | (refine below_trans ?_ (by assumption) (by first | omega | (simp; omega) | simp))))
    go_wp2_with fail
    go_at_call 9
    refine (HM.out _ ((hr.later b0).later (by repeat (first | exact Below.refl _ _ | assumption | (refine below_drewN ?_ _) | (refine Below.drew ?_) | (refine Below.alloc ?_ (by first | omega | (simp; omega) | simp) _) | (refine Below.setCell ?_ (by first | omega | (simp; omega) | simp) _) | (refine below_trans ?_ (by assumption) (by first | omega | (simp; omega) | simp)))))).mono ?_
    rintro e w1 ⟨A1, c1, rfl, o1, hb_w1⟩
    obtain ⟨hc_w1, hf_w1⟩ := bcell hb_w1; have hs_w1 := hb_w1.size; (try simp only [World.size_alloc, World.size_setCell, World.size_drew, World.heap_drewN] at hs_w1)
    have b1 : Below w.heap.size w w1 := (by repeat (first | exact Below.refl _ _ | assumption | (refine below_drewN ?_ _) | (refine Below.drew ?_) | (refine Below.alloc ?_ (by first | omega | (simp; omega) | simp) _) | (refine Below.setCell ?_ (by first | omega | (simp; omega) | simp) _) | (refine below_trans ?_ (by assumption) (by first | omega | (simp; omega) | simp))))
    have r1 := o1.row
    go_wp2_with fail
    go_at_call 9
    refine (HM2.out _ _ _ (r1.later (by repeat (first | exact Below.refl _ _ | assumption | (refine below_drewN ?_ _) | (refine Below.drew ?_) | (refine Below.alloc ?_ (by first | omega | (simp; omega) | simp) _) | (refine Below.setCell ?_ (by first | omega | (simp; omega) | simp) _) | (refine below_trans ?_ (by assumption) (by first | omega | (simp; omega) | simp))))) o1.cap_ o1.nil_).mono ?_
    rintro e w2 ⟨A2, c2, rfl, o2, hb_w2⟩
    obtain ⟨hc_w2, hf_w2⟩ := bcell hb_w2; have hs_w2 := hb_w2.size; (try simp only [World.size_alloc, World.size_setCell, World.size_drew, World.heap_drewN] at hs_w2)
    have b2 : Below w.heap.size w w2 := (by repeat (first | exact Below.refl _ _ | assumption | (refine below_drewN ?_ _) | (refine Below.drew ?_) | (refine Below.alloc ?_ (by first | omega | (simp; omega) | simp) _) | (refine Below.setCell ?_ (by first | omega | (simp; omega) | simp) _) | (refine below_trans ?_ (by assumption) (by first | omega | (simp; omega) | simp))))
    have r1 := r1.later hb_w2
    have r2 := o2.row
    clear hc_w0 hf_w0 hc_w1 hf_w1 hc_w2 hf_w2
    go_wp2_with fail
    go_at_call 11
    refine (HG.out _ _ _ (r2.later (by repeat (first | exact Below.refl _ _ | assumption | (refine below_drewN ?_ _) | (refine Below.drew ?_) | (refine Below.alloc ?_ (by first | omega | (simp; omega) | simp) _) | (refine Below.setCell ?_ (by first | omega | (simp; omega) | simp) _) | (refine below_trans ?_ (by assumption) (by first | omega | (simp; omega) | simp))))) o2.cap_).mono ?_
    rintro e w3 ⟨rfl, hb_w3⟩
    obtain ⟨hc_w3, hf_w3⟩ := bcell hb_w3; have hs_w3 := hb_w3.size; (try simp only [World.size_alloc, World.size_setCell, World.size_drew, World.heap_drewN] at hs_w3)
    have b3 : Below w.heap.size w w3 := (by repeat (first | exact Below.refl _ _ | assumption | (refine below_drewN ?_ _) | (refine Below.drew ?_) | (refine Below.alloc ?_ (by first | omega | (simp; omega) | simp) _) | (refine Below.setCell ?_ (by first | omega | (simp; omega) | simp) _) | (refine below_trans ?_ (by assumption) (by first | omega | (simp; omega) | simp))))
    have r1 := r1.later hb_w3
    have r2 := r2.later hb_w3
    go_wp2_with fail
    go_at_call 15
    refine (HH.out _ _ _ (r2.later (by repeat (first | exact Below.refl _ _ | assumption | (refine below_drewN ?_ _) | (refine Below.drew ?_) | (refine Below.alloc ?_ (by first | omega | (simp; omega) | simp) _) | (refine Below.setCell ?_ (by first | omega | (simp; omega) | simp) _) | (refine below_trans ?_ (by assumption) (by first | omega | (simp; omega) | simp))))) o2.cap_).mono ?_
    rintro e w4 ⟨rfl, hb_w4⟩
    obtain ⟨hc_w4, hf_w4⟩ := bcell hb_w4; have hs_w4 := hb_w4.size; (try simp only [World.size_alloc, World.size_setCell, World.size_drew, World.heap_drewN] at hs_w4)
    have b4 : Below w.heap.size w w4 := (by repeat (first | exact Below.refl _ _ | assumption | (refine below_drewN ?_ _) | (refine Below.drew ?_) | (refine Below.alloc ?_ (by first | omega | (simp; omega) | simp) _) | (refine Below.setCell ?_ (by first | omega | (simp; omega) | simp) _) | (refine below_trans ?_ (by assumption) (by first | omega | (simp; omega) | simp))))
    have r1 := r1.later hb_w4
    have r2 := r2.later hb_w4
    clear hc_w3 hf_w3 hc_w4 hf_w4
    go_wp2_with fail
    go_at_call 18
    refine (HS.out _ _ _ _ _ (r1.later (by repeat (first | exact Below.refl _ _ | assumption | (refine below_drewN ?_ _) | (refine Below.drew ?_) | (refine Below.alloc ?_ (by first | omega | (simp; omega) | simp) _) | (refine Below.setCell ?_ (by first | omega | (simp; omega) | simp) _) | (refine below_trans ?_ (by assumption) (by first | omega | (simp; omega) | simp))))) (r2.later (by repeat (first | exact Below.refl _ _ | assumption | (refine below_drewN ?_ _) | (refine Below.drew ?_) | (refine Below.alloc ?_ (by first | omega | (simp; omega) | simp) _) | (refine Below.setCell ?_ (by first | omega | (simp; omega) | simp) _) | (refine below_trans ?_ (by assumption) (by first | omega | (simp; omega) | simp)))))).mono ?_
    rintro e w5 ⟨rfl, hb_w5⟩
    obtain ⟨hc_w5, hf_w5⟩ := bcell hb_w5; have hs_w5 := hb_w5.size; (try simp only [World.size_alloc, World.size_setCell, World.size_drew, World.heap_drewN] at hs_w5)
    have b5 : Below w.heap.size w w5 := (by repeat (first | exact Below.refl _ _ | assumption | (refine below_drewN ?_ _) | (refine Below.drew ?_) | (refine Below.alloc ?_ (by first | omega | (simp; omega) | simp) _) | (refine Below.setCell ?_ (by first | omega | (simp; omega) | simp) _) | (refine below_trans ?_ (by assumption) (by first | omega | (simp; omega) | simp))))
    have r1 := r1.later hb_w5
    go_wp2_with fail
    go_at_call 19
    refine (HC.out _ _ _ (r1.later (by repeat (first | exact Below.refl _ _ | assumption | (refine below_drewN ?_ _) | (refine Below.drew ?_) | (refine Below.alloc ?_ (by first | omega | (simp; omega) | simp) _) | (refine Below.setCell ?_ (by first | omega | (simp; omega) | simp) _) | (refine below_trans ?_ (by assumption) (by first | omega | (simp; omega) | simp))))) o1.cap_).mono ?_
    rintro e w6 ⟨rfl, hb_w6⟩
    obtain ⟨hc_w6, hf_w6⟩ := bcell hb_w6; have hs_w6 := hb_w6.size; (try simp only [World.size_alloc, World.size_setCell, World.size_drew, World.heap_drewN] at hs_w6)
    go_wp2
    go_ret
    exact ⟨rfl, (by repeat (first | exact Below.refl _ _ | assumption | (refine below_drewN ?_ _) | (refine Below.drew ?_) | (refine Below.alloc ?_ (by first | omega | (simp; omega) | simp) _) | (refine Below.setCell ?_ (by first | omega | (simp; omega) | simp) _) | (refine below_trans ?_ (by assumption) (by first | omega | (simp; omega) | simp))))⟩
  · have hz := hE1.zero hy
    subst hz
    have f1 : (y1 != 0) = true := by simpa using hy
    clear hE1 hy
    go_enter Try.func5, Try.ntmps5
    go_wp2_with fail
    go_at_call 17
    refine (wlives_any _).mono ?_
    rintro e w0 ⟨rfl, hb_w0⟩
    obtain ⟨hc_w0, hf_w0⟩ := bcell hb_w0; have hs_w0 := hb_w0.size; (try simp only [World.size_alloc, World.size_setCell, World.size_drew, World.heap_drewN] at hs_w0)
    have b0 : Below w.heap.size w w0 := (by repeat (first | exact Below.refl _ _ | assumption | (refine below_drewN ?_ _) | (refine Below.drew ?_) | (refine Below.alloc ?_ (by first | omega | (simp; omega) | simp) _) | (refine Below.setCell ?_ (by first | omega | (simp; omega) | simp) _) | (refine below_trans ?_ (by assumption) (by first | omega | (simp; omega) | simp))))
    go_wp2_with fail
    go_at_call 9
    refine (HM.out _ ((hr.later b0).later (by repeat (first | exact Below.refl _ _ | assumption | (refine below_drewN ?_ _) | (refine Below.drew ?_) | (refine Below.alloc ?_ (by first | omega | (simp; omega) | simp) _) | (refine Below.setCell ?_ (by first | omega | (simp; omega) | simp) _) | (refine below_trans ?_ (by assumption) (by first | omega | (simp; omega) | simp)))))).mono ?_
    rintro e w1 ⟨A1, c1, rfl, o1, hb_w1⟩
    obtain ⟨hc_w1, hf_w1⟩ := bcell hb_w1; have hs_w1 := hb_w1.size; (try simp only [World.size_alloc, World.size_setCell, World.size_drew, World.heap_drewN] at hs_w1)
    go_wp2
    go_ret
    exact ⟨rfl, (by repeat (first | exact Below.refl _ _ | assumption | (refine below_drewN ?_ _) | (refine Below.drew ?_) | (refine Below.alloc ?_ (by first | omega | (simp; omega) | simp) _) | (refine Below.setCell ?_ (by first | omega | (simp; omega) | simp) _) | (refine below_trans ?_ (by assumption) (by first | omega | (simp; omega) | simp))))⟩
theorem nodup_le : ∀ (ls gs : List Nat), ls.Nodup → (∀ x ∈ ls, x ∈ gs) → ls.length ≤ gs.length
  | [], gs, _, _ => by simp
  | x :: ls, gs, hn, hm => by
    obtain ⟨h1, h2⟩ := List.nodup_cons.1 hn
    have hx : x ∈ gs := hm x (by simp)
    have := nodup_le ls (gs.erase x) h2 (fun y hy => (List.mem_erase_of_ne (fun e => h1 (by rw [← e]; exact hy))).2 (hm y (by simp [hy])))
    rw [List.length_erase_of_mem hx] at this
    have := List.length_pos_of_mem hx
    simp only [List.length_cons]
    omega
theorem nodupH (t gs : List Nat) (hok : OkW t) (k : Nat) (hk : k ≤ t.length) : (clrH t gs k).length ≤ gs.length := by
  have : ∀ k, k ≤ t.length → ∃ ls : List Nat, ls.Nodup ∧ (∀ x ∈ ls, x ∈ gs ∧ x ≠ 0 ∧ ∃ j, j < k ∧ t.getD j 0 = x) ∧ ls.length = (clrH t gs k).length := by
    intro k
    induction k with
    | zero => intro _; exact ⟨[], List.nodup_nil, fun x hx => (by cases hx), rfl⟩
    | succ k ih =>
      intro hk
      obtain ⟨ls, h1, h2, h3⟩ := ih (by omega)
      by_cases hg : goesW t gs k = true
      · have hg' := hg
        unfold goesW at hg'
        obtain ⟨g0, g1⟩ := of_decide_eq_true hg'
        refine ⟨t.getD k 0 :: ls, List.nodup_cons.2 ⟨fun hm => ?_, h1⟩, fun x hx => ?_, ?_⟩
        · obtain ⟨_, _, j, hj, e⟩ := h2 _ hm
          rcases hok.2 k (by omega) with h | h
          · exact g0 h
          · exact h j hj e
        · rcases List.mem_cons.1 hx with rfl | hx
          · exact ⟨g1, g0, k, by omega, rfl⟩
          · obtain ⟨q1, q2, j, hj, e⟩ := h2 x hx
            exact ⟨q1, q2, j, by omega, e⟩
        · show _ = (clrH t gs k ++ (if goesW t gs k then [((k + 1 : Nat) : Int)] else [])).length
          rw [if_pos hg, List.length_append, List.length_cons, h3]
          rfl
      · refine ⟨ls, h1, fun x hx => ?_, ?_⟩
        · obtain ⟨q1, q2, j, hj, e⟩ := h2 x hx
          exact ⟨q1, q2, j, by omega, e⟩
        · show _ = (clrH t gs k ++ (if goesW t gs k then [((k + 1 : Nat) : Int)] else [])).length
          rw [if_neg hg, List.append_nil, h3]
  obtain ⟨ls, h1, h2, h3⟩ := this k hk
  rw [← h3]
  exact nodup_le _ _ h1 fun x hx => (h2 x hx).1
theorem hin_clr_in {t gs : List Nat} {a : Nat} (h : a ∈ gs) : hin (clrT t gs) a = 0 := by
  by_cases ha : a = 0
  · rw [ha, hin_zero]
  · refine hin_miss fun j hj => ?_
    rw [clrT_at]
    split
    · exact fun e => ha e.symm
    · rename_i hn
      exact fun e => hn (by rw [e]; exact h)
theorem hin_clr_out {t gs : List Nat} {a : Nat} (h : ¬ a ∈ gs) : hin (clrT t gs) a = hin t a := by
  by_cases ha : a = 0
  · rw [ha, hin_zero, hin_zero]
  · by_cases hh : hin t a = 0
    · rw [hh]
      refine hin_miss fun j hj => ?_
      rw [clrT_at]
      split
      · exact fun e => ha e.symm
      · rw [clrT_len] at hj
        exact hin_none ha hh j hj
    · obtain ⟨_, p1, p2, p3⟩ := hin_pos hh
      have := hin_hit (t := clrT t gs) (a := a) (k := hin t a - 1) ha (by rw [clrT_len]; omega) (by rw [clrT_at, p2, if_neg h]) (fun j hj => by
        rw [clrT_at]
        split
        · exact fun e => ha e.symm
        · exact p3 j hj)
      rw [this]
      omega
set_option maxHeartbeats 4000000 in
theorem weakClears_walk (A G : Option Addr) (cap cg : Nat) (t gs : List Nat) (o : Nat) (w : World) (hr : Row w w.heap.size A t) (hcl : t.length ≤ cap) (hl : t.length ≤ 17592186044416) (hn : A = none → cap = 0) (hq : Row w w.heap.size G gs) (hgl : gs.length ≤ 17592186044416) (ho : o < W64) :
    Calls Try.prog 6 #[.slice A t.length cap, .slice G gs.length cg, .int .u64 (o : Nat)] w fun e w' => e = .returned (.bool true) ∧ Below w.heap.size w w' := by
  by_cases hok : OkW t
  · have HL := Lib.hid fun (w : World) hr hq => wclear_any (w := w) (A := A) (G := G) (t := t) (gs := gs) cap cg hr hcl hl hn hq hgl _ _ _ (.inr ⟨hok, rfl, rfl, rfl⟩)
    have hokU := okW_clr gs hok
    have HLN := Lib.hid (clrT_len t gs)
    have hle := nodupH t gs hok t.length (Nat.le_refl _)
    have hle2 := clrH_len t gs t.length
    have h64 := hok.1
    have HU := Lib.hid fun (w : World) (A : Option Addr) (cap a : Nat) (ha : a ∈ gs) hr hc => whan_any (w := w) (A := A) (t := clrT t gs) cap hr hc (by rw [clrT_len]; exact hl) a 0 (if a = 0 then 7 else 3) (by
      by_cases h0 : a = 0
      · rw [if_pos h0]
        exact .inr (.inl ⟨hokU, h0, rfl, rfl⟩)
      · rw [if_neg h0]
        exact .inr (.inr (.inl ⟨hokU, h0, hin_clr_in ha, rfl, rfl⟩)))
    obtain ⟨h, y, hE⟩ := HanE.ex t o
    have HT := Lib.hid fun (w : World) hr => whan_any (w := w) (A := A) (t := t) cap hr hcl hl o h y hE
    have HO := Lib.hid fun (w : World) (A : Option Addr) (cap : Nat) (ha : ¬ o ∈ gs) hr hc => whan_any (w := w) (A := A) (t := clrT t gs) cap hr hc (by rw [clrT_len]; exact hl) o h y (by
      rcases hE with ⟨h1, _⟩ | ⟨h1, h2, h3, h4⟩ | ⟨h1, h2, h3, h4, h5⟩ | ⟨h1, h2, h3, h4, h5⟩
      · exact absurd hok h1
      · exact .inr (.inl ⟨hokU, h2, h3, h4⟩)
      · exact .inr (.inr (.inl ⟨hokU, h2, by rw [hin_clr_out ha]; exact h3, h4, h5⟩))
      · exact .inr (.inr (.inr ⟨hokU, h2, by rw [hin_clr_out ha]; exact h3, by rw [hin_clr_out ha]; exact h4, h5⟩)))
    have n1 : ((h : Int) == (h : Int)) = true := by simp
    have n2 : (y == y) = true := by simp
    have n3 : ((t.length : Int) == (t.length : Int)) = true := by simp
    clear hE hokU hok
    generalize clrT t gs = u at *
    generalize clrH t gs t.length = l at *
    rw [HLN.out] at HL HU HO
    have n4 : decide ((l.length : Int) ≤ (gs.length : Int)) = true := by simp; omega
    go_enter Try.func6, Try.ntmps6
    go_wp2_with fail
    go_at_call 17
    refine (wlives_any _).mono ?_
    rintro e w0 ⟨rfl, hb_w0⟩
    obtain ⟨hc_w0, hf_w0⟩ := bcell hb_w0; have hs_w0 := hb_w0.size; (try simp only [World.size_alloc, World.size_setCell, World.size_drew, World.heap_drewN] at hs_w0)
    have b0 : Below w.heap.size w w0 := (by repeat (first | exact Below.refl _ _ | assumption | (refine below_drewN ?_ _) | (refine Below.drew ?_) | (refine Below.alloc ?_ (by first | omega | (simp; omega) | simp) _) | (refine Below.setCell ?_ (by first | omega | (simp; omega) | simp) _) | (refine below_trans ?_ (by assumption) (by first | omega | (simp; omega) | simp))))
    go_wp2_with fail
    go_at_call 13
    refine (HL.out _ ((hr.later b0).later (by repeat (first | exact Below.refl _ _ | assumption | (refine below_drewN ?_ _) | (refine Below.drew ?_) | (refine Below.alloc ?_ (by first | omega | (simp; omega) | simp) _) | (refine Below.setCell ?_ (by first | omega | (simp; omega) | simp) _) | (refine below_trans ?_ (by assumption) (by first | omega | (simp; omega) | simp))))) ((hq.later b0).later (by repeat (first | exact Below.refl _ _ | assumption | (refine below_drewN ?_ _) | (refine Below.drew ?_) | (refine Below.alloc ?_ (by first | omega | (simp; omega) | simp) _) | (refine Below.setCell ?_ (by first | omega | (simp; omega) | simp) _) | (refine below_trans ?_ (by assumption) (by first | omega | (simp; omega) | simp)))))).mono ?_
    rintro e w1 ⟨A1, c1, C1, d1, rfl, o1, p1, _, hb_w1⟩
    obtain ⟨hc_w1, hf_w1⟩ := bcell hb_w1; have hs_w1 := hb_w1.size; (try simp only [World.size_alloc, World.size_setCell, World.size_drew, World.heap_drewN] at hs_w1)
    have b1 : Below w.heap.size w w1 := (by repeat (first | exact Below.refl _ _ | assumption | (refine below_drewN ?_ _) | (refine Below.drew ?_) | (refine Below.alloc ?_ (by first | omega | (simp; omega) | simp) _) | (refine Below.setCell ?_ (by first | omega | (simp; omega) | simp) _) | (refine below_trans ?_ (by assumption) (by first | omega | (simp; omega) | simp))))
    have r1 := o1.row
    have k1 := o1.cap_
    clear hc_w0 hf_w0 hc_w1 hf_w1 o1 p1
    go_wp2_with fail
    go_loopw [39] (fun ii wr => ∃ k : Nat, ii = .int .i64 (k : Nat) ∧ k ≤ gs.length ∧ Hid (∀ j, j < k → gs.getD j 0 ≠ o) ∧ w1.heap.size ≤ wr.heap.size ∧ Below w1.heap.size w1 wr) (fun ii _ => gs.length - (intOf ii).toNat)
    case atStart => exact ⟨0, rfl, Nat.zero_le _, Lib.hid (fun j hj => by omega), (by first | omega | (simp; omega) | simp), (by repeat (first | exact Below.refl _ _ | assumption | (refine below_drewN ?_ _) | (refine Below.drew ?_) | (refine Below.alloc ?_ (by first | omega | (simp; omega) | simp) _) | (refine Below.setCell ?_ (by first | omega | (simp; omega) | simp) _) | (refine below_trans ?_ (by assumption) (by first | omega | (simp; omega) | simp))))⟩
    case round =>
      obtain ⟨k, rfl, hk, hB, hsz, hb_wr⟩ := hrel
      have hsr := hb_wr.size
      have b2 : Below w.heap.size w wr := below_trans b1 hb_wr (by first | omega | (simp; omega) | simp)
      have r2 := r1.later hb_wr
      by_cases hlt : k < gs.length
      · obtain ⟨b, off, hA, hbb, hc⟩ := (hq.later b2).cellAt (k := k) hlt
        have hmem : gs.getD k 0 ∈ gs := by
          rw [List.getD_eq_getElem?_getD, List.getElem?_eq_getElem hlt]
          exact List.getElem_mem hlt
        obtain ⟨x, hx⟩ : ∃ x, Hid (gs.getD k 0 = x) := ⟨_, rfl⟩
        rw [hx.out] at hc hmem
        have HUK := Lib.hid fun (w : World) (A : Option Addr) (cap : Nat) hr hc => HU.out w A cap x hmem hr hc
        obtain ⟨yy, hyy⟩ : ∃ yy : Int, (if x = 0 then 7 else 3) = yy := ⟨_, rfl⟩
        have hy0 : (yy == 0) = false := by
          rw [← hyy]
          split <;> simp
        rw [hyy] at HUK
        subst hA
        clear hmem hyy
        have i1 : (k : Int) < (gs.length : Int) := by omega
        have i2 : (0 : Int) ≤ (k : Int) := by omega
        by_cases he : x = o
        · have f1 : ((x : Int) == (o : Int)) = true := by simp [he]
          clear he
          go_wp2_with fail
          go_at_call 15
          refine (HUK.out _ _ _ (r2.later (by repeat (first | exact Below.refl _ _ | assumption | (refine below_drewN ?_ _) | (refine Below.drew ?_) | (refine Below.alloc ?_ (by first | omega | (simp; omega) | simp) _) | (refine Below.setCell ?_ (by first | omega | (simp; omega) | simp) _) | (refine below_trans ?_ (by assumption) (by first | omega | (simp; omega) | simp))))) k1).mono ?_
          rintro e w3 ⟨rfl, hb_w3⟩
          obtain ⟨hc_w3, hf_w3⟩ := bcell hb_w3; have hs_w3 := hb_w3.size; (try simp only [World.size_alloc, World.size_setCell, World.size_drew, World.heap_drewN] at hs_w3)
          go_wp2
          go_ret
          exact ⟨rfl, below_trans b2 hb_w3 (by first | omega | (simp; omega) | simp)⟩
        · have f1 : ((x : Int) == (o : Int)) = false := by simp; omega
          have hB2 : Hid (∀ j, j < k + 1 → gs.getD j 0 ≠ o) := Lib.hid (fun j hj => by
            by_cases e : j = k
            · subst e; rw [hx.out]; exact he
            · exact hB.out j (by omega))
          clear he
          go_wp2_with fail
          go_at_call 15
          refine (HUK.out _ _ _ (r2.later (by repeat (first | exact Below.refl _ _ | assumption | (refine below_drewN ?_ _) | (refine Below.drew ?_) | (refine Below.alloc ?_ (by first | omega | (simp; omega) | simp) _) | (refine Below.setCell ?_ (by first | omega | (simp; omega) | simp) _) | (refine below_trans ?_ (by assumption) (by first | omega | (simp; omega) | simp))))) k1).mono ?_
          rintro e w3 ⟨rfl, hb_w3⟩
          obtain ⟨hc_w3, hf_w3⟩ := bcell hb_w3; have hs_w3 := hb_w3.size; (try simp only [World.size_alloc, World.size_setCell, World.size_drew, World.heap_drewN] at hs_w3)
          go_wp2
          go_roundw
          case rel => exact ⟨k + 1, by go_num, by omega, hB2, (by first | omega | (simp; omega) | simp), (by repeat (first | exact Below.refl _ _ | assumption | (refine below_drewN ?_ _) | (refine Below.drew ?_) | (refine Below.alloc ?_ (by first | omega | (simp; omega) | simp) _) | (refine Below.setCell ?_ (by first | omega | (simp; omega) | simp) _) | (refine below_trans ?_ (by assumption) (by first | omega | (simp; omega) | simp))))⟩
          case measure => simp [intOf]; omega
      · have hno : ¬ o ∈ gs := fun hm => by
          obtain ⟨j, hj, e⟩ := List.getElem_of_mem hm
          exact hB.out j (by omega) (by rw [List.getD_eq_getElem?_getD, List.getElem?_eq_getElem hj]; exact e)
        have HO := Lib.hid fun (w : World) (A : Option Addr) (cap : Nat) hr hc => HO.out w A cap hno hr hc
        have rt := hr.later b2
        clear hno HU
        go_wp2_with fail
        go_at_call 15
        refine (HT.out _ (rt.later (by repeat (first | exact Below.refl _ _ | assumption | (refine below_drewN ?_ _) | (refine Below.drew ?_) | (refine Below.alloc ?_ (by first | omega | (simp; omega) | simp) _) | (refine Below.setCell ?_ (by first | omega | (simp; omega) | simp) _) | (refine below_trans ?_ (by assumption) (by first | omega | (simp; omega) | simp)))))).mono ?_
        rintro e w3 ⟨rfl, hb_w3⟩
        obtain ⟨hc_w3, hf_w3⟩ := bcell hb_w3; have hs_w3 := hb_w3.size; (try simp only [World.size_alloc, World.size_setCell, World.size_drew, World.heap_drewN] at hs_w3)
        go_wp2_with fail
        go_at_call 15
        refine (HO.out _ _ _ ((r2.later hb_w3).later (by repeat (first | exact Below.refl _ _ | assumption | (refine below_drewN ?_ _) | (refine Below.drew ?_) | (refine Below.alloc ?_ (by first | omega | (simp; omega) | simp) _) | (refine Below.setCell ?_ (by first | omega | (simp; omega) | simp) _) | (refine below_trans ?_ (by assumption) (by first | omega | (simp; omega) | simp))))) k1).mono ?_
        rintro e w4 ⟨rfl, hb_w4⟩
        obtain ⟨hc_w4, hf_w4⟩ := bcell hb_w4; have hs_w4 := hb_w4.size; (try simp only [World.size_alloc, World.size_setCell, World.size_drew, World.heap_drewN] at hs_w4)
        go_wp2
        go_ret
        exact ⟨rfl, below_trans (below_trans b2 hb_w3 (by first | omega | (simp; omega) | simp)) hb_w4 (by first | omega | (simp; omega) | simp)⟩
  · have HL := Lib.hid fun (w : World) hr hq => wclear_any (w := w) (A := A) (G := G) (t := t) (gs := gs) cap cg hr hcl hl hn hq hgl [] [] 2 (.inl ⟨hok, rfl, rfl, rfl⟩)
    clear hok
    go_enter Try.func6, Try.ntmps6
    go_wp2_with fail
    go_at_call 17
    refine (wlives_any _).mono ?_
    rintro e w0 ⟨rfl, hb_w0⟩
    obtain ⟨hc_w0, hf_w0⟩ := bcell hb_w0; have hs_w0 := hb_w0.size; (try simp only [World.size_alloc, World.size_setCell, World.size_drew, World.heap_drewN] at hs_w0)
    have b0 : Below w.heap.size w w0 := (by repeat (first | exact Below.refl _ _ | assumption | (refine below_drewN ?_ _) | (refine Below.drew ?_) | (refine Below.alloc ?_ (by first | omega | (simp; omega) | simp) _) | (refine Below.setCell ?_ (by first | omega | (simp; omega) | simp) _) | (refine below_trans ?_ (by assumption) (by first | omega | (simp; omega) | simp))))
    go_wp2_with fail
    go_at_call 13
    refine (HL.out _ ((hr.later b0).later (by repeat (first | exact Below.refl _ _ | assumption | (refine below_drewN ?_ _) | (refine Below.drew ?_) | (refine Below.alloc ?_ (by first | omega | (simp; omega) | simp) _) | (refine Below.setCell ?_ (by first | omega | (simp; omega) | simp) _) | (refine below_trans ?_ (by assumption) (by first | omega | (simp; omega) | simp))))) ((hq.later b0).later (by repeat (first | exact Below.refl _ _ | assumption | (refine below_drewN ?_ _) | (refine Below.drew ?_) | (refine Below.alloc ?_ (by first | omega | (simp; omega) | simp) _) | (refine Below.setCell ?_ (by first | omega | (simp; omega) | simp) _) | (refine below_trans ?_ (by assumption) (by first | omega | (simp; omega) | simp)))))).mono ?_
    rintro e w1 ⟨A1, c1, C1, d1, rfl, o1, p1, _, hb_w1⟩
    obtain ⟨hc_w1, hf_w1⟩ := bcell hb_w1; have hs_w1 := hb_w1.size; (try simp only [World.size_alloc, World.size_setCell, World.size_drew, World.heap_drewN] at hs_w1)
    go_wp2
    go_ret
    exact ⟨rfl, (by repeat (first | exact Below.refl _ _ | assumption | (refine below_drewN ?_ _) | (refine Below.drew ?_) | (refine Below.alloc ?_ (by first | omega | (simp; omega) | simp) _) | (refine Below.setCell ?_ (by first | omega | (simp; omega) | simp) _) | (refine below_trans ?_ (by assumption) (by first | omega | (simp; omega) | simp))))⟩
end Go.Proofs.Ytkfcnjdjcnfmfaa
