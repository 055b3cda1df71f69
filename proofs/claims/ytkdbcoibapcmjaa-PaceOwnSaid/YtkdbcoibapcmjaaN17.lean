/- The document's own pacers: Check. -/
import Derived.Test.YtkdbcoibapcmjaaN4
import Derived.Deep.AppendLies
namespace Go.Proofs.Ytkdbcoibapcmjaa
open Go.RowKit
set_option linter.unusedVariables false
set_option linter.unusedSimpArgs false
set_option maxRecDepth 100000

/-- the numbers that a collection has -/
def numsX (p : Pc) : List Nat := [p.est, p.room, p.credit, p.done, p.made]
def badX (on : Bool) (n : Nat) : Prop := 1099511627776 < n ∨ (on = false ∧ 0 < n)
theorem okP_ref (p : Pc) : OkP p ↔ (1 ≤ p.pct ∧ p.pct ≤ 10000 ∧ 1 ≤ p.least ∧ p.least ≤ 1099511627776 ∧ p.live ≤ 1099511627776 ∧ 1 ≤ p.ds.length ∧ p.ds.length ≤ 4) ∧ (∀ i, i < (numsX p ++ p.ds).length → ¬ badX p.on ((numsX p ++ p.ds).getD i 0)) ∧ (p.on = true → 1 ≤ p.est ∧ 1 ≤ p.room) := by
  have key : (∀ i, i < (numsX p ++ p.ds).length → ¬ badX p.on ((numsX p ++ p.ds).getD i 0)) ↔ ∀ x ∈ numsX p ++ p.ds, ¬ badX p.on x := by
    constructor
    · intro h x hx
      obtain ⟨i, hi, rfl⟩ := List.getElem_of_mem hx
      have := h i hi
      rwa [List.getD_eq_getElem?_getD, List.getElem?_eq_getElem hi] at this
    · intro h i hi
      rw [List.getD_eq_getElem?_getD, List.getElem?_eq_getElem hi]
      exact h _ (List.getElem_mem hi)
  rw [key]
  constructor
  · intro h
    refine ⟨⟨h.pct1, h.pct2, h.least1, h.least2, h.live, h.len1, h.len2⟩, fun x hx hb => ?_, h.on1⟩
    have hm : x ≤ 1099511627776 ∧ (p.on = false → x = 0) := by
      rcases List.mem_append.1 hx with hx | hx
      · simp only [numsX, List.mem_cons, List.not_mem_nil, or_false] at hx
        have h1 := h.est; have h2 := h.room; have h3 := h.credit; have h4 := h.done; have h5 := h.made
        refine ⟨by rcases hx with rfl | rfl | rfl | rfl | rfl <;> assumption, fun ho => ?_⟩
        obtain ⟨a, b, c, d, e, _⟩ := h.off ho
        rcases hx with rfl | rfl | rfl | rfl | rfl <;> assumption
      · exact ⟨h.ds x hx, fun ho => (h.off ho).2.2.2.2.2 x hx⟩
    rcases hb with hb | ⟨ho, hb⟩
    · omega
    · have := hm.2 ho; omega
  · rintro ⟨⟨a, b, c, d, e, f, g⟩, h, k⟩
    have hm : ∀ x ∈ numsX p ++ p.ds, x ≤ 1099511627776 ∧ (p.on = false → x = 0) := fun x hx => by
      have := h x hx
      unfold badX at this
      refine ⟨by omega, fun ho => ?_⟩
      by_cases h3 : 0 < x
      · exact absurd (.inr ⟨ho, h3⟩) this
      · omega
    have mm : ∀ x ∈ numsX p, x ∈ numsX p ++ p.ds := fun x hx => List.mem_append_left _ hx
    have md : ∀ x ∈ p.ds, x ∈ numsX p ++ p.ds := fun x hx => List.mem_append_right _ hx
    refine ⟨a, b, c, d, e, f, g, (hm _ (mm _ (by simp [numsX]))).1, (hm _ (mm _ (by simp [numsX]))).1, (hm _ (mm _ (by simp [numsX]))).1, (hm _ (mm _ (by simp [numsX]))).1, (hm _ (mm _ (by simp [numsX]))).1, fun x hx => (hm x (md x hx)).1, k, fun ho => ⟨(hm _ (mm _ (by simp [numsX]))).2 ho, (hm _ (mm _ (by simp [numsX]))).2 ho, (hm _ (mm _ (by simp [numsX]))).2 ho, (hm _ (mm _ (by simp [numsX]))).2 ho, (hm _ (mm _ (by simp [numsX]))).2 ho, fun x hx => (hm x (md x hx)).2 ho⟩⟩
theorem Ten.grown {w w' : World} {b : Nat} {row : Option Nat} {v0 v1 v2 v3 v4 v5 v6 v7 v8 v9 : Value} (h : Ten w b v0 v1 v2 v3 v4 v5 v6 v7 v8 v9) (hg : w.grownBy w' row) (hne : some b ≠ row) : Ten w' b v0 v1 v2 v3 v4 v5 v6 v7 v8 v9 :=
  have e := hg.block b h.lt hne
  ⟨(World.cell?_of_block (a := ⟨b, 0, none⟩) e).trans h.c0, (World.cell?_of_block (a := ⟨b, 1, none⟩) e).trans h.c1, (World.cell?_of_block (a := ⟨b, 2, none⟩) e).trans h.c2, (World.cell?_of_block (a := ⟨b, 3, none⟩) e).trans h.c3, (World.cell?_of_block (a := ⟨b, 4, none⟩) e).trans h.c4, (World.cell?_of_block (a := ⟨b, 5, none⟩) e).trans h.c5, (World.cell?_of_block (a := ⟨b, 6, none⟩) e).trans h.c6, (World.cell?_of_block (a := ⟨b, 7, none⟩) e).trans h.c7, (World.cell?_of_block (a := ⟨b, 8, none⟩) e).trans h.c8, (World.cell?_of_block (a := ⟨b, 9, none⟩) e).trans h.c9, fun i => (World.frozen?_of_block (a := ⟨b, i, none⟩) e).trans (h.f i)⟩
theorem vals_app (a b : List Nat) : vals (a ++ b) = vals a ++ vals b := by simp [vals]
theorem numsX_words {p : Pc} (h : FitP p) : Words (numsX p) := fun x hx => by
  simp only [numsX, List.mem_cons, List.not_mem_nil, or_false] at hx
  rcases hx with rfl | rfl | rfl | rfl | rfl
  · exact h.est
  · exact h.room
  · exact h.credit
  · exact h.done
  · exact h.made
section
variable {w : World} {p : Pc} {A : Option Addr} (c : Nat)
set_option maxHeartbeats 4000000 in
theorem xpcheck_pre (y : Int) (hy : ChkP p y) (hbad : p.pct < 1 ∨ 10000 < p.pct ∨ p.least < 1 ∨ 1099511627776 < p.least ∨ 1099511627776 < p.live ∨ p.ds.length < 1 ∨ 4 < p.ds.length) :
    Calls Try.prog 18 #[(.agg #[.int .i64 p.pct, .int .u64 (p.least : Nat), .int .u64 (p.live : Nat), .bool p.on, .int .u64 (p.est : Nat), .int .u64 (p.room : Nat), .int .u64 (p.credit : Nat), .int .u64 (p.done : Nat), .int .u64 (p.made : Nat), .slice A p.ds.length c])] w fun e w' => e = .returned (.int .i64 y) ∧ Below w.heap.size w w' := by
  obtain rfl : y = 2 := by
    rcases hy with ⟨h, _⟩ | ⟨_, h⟩
    · obtain ⟨⟨a, b, c, d, e, f, g⟩, _⟩ := (okP_ref p).1 h
      exfalso; omega
    · exact h
  clear hy
  by_cases h0 : p.pct < 1
  · have f0 : decide (p.pct < 1) = true := by simp; omega
    clear hbad h0
    obtain ⟨pct, least, live, on, est, room, credit, done, made, ds⟩ := p
    simp only at *
    go_enter Try.func18, Try.ntmps18
    go_wp2
    go_ret
    exact ⟨rfl, (by repeat (first | exact Below.refl _ _ | assumption | (refine below_drewN ?_ _) | (refine Below.drew ?_) | (refine Below.alloc ?_ (by first | omega | (simp; omega) | simp) _) | (refine Below.setCell ?_ (by first | omega | (simp; omega) | simp) _) | (refine below_trans ?_ (by assumption) (by first | omega | (simp; omega) | simp))))⟩
  by_cases h1 : 10000 < p.pct
  · have f0 : decide (p.pct < 1) = false := by simp; omega
    have f1 : decide (10000 < p.pct) = true := by simp; omega
    clear hbad h0 h1
    obtain ⟨pct, least, live, on, est, room, credit, done, made, ds⟩ := p
    simp only at *
    go_enter Try.func18, Try.ntmps18
    go_wp2
    go_ret
    exact ⟨rfl, (by repeat (first | exact Below.refl _ _ | assumption | (refine below_drewN ?_ _) | (refine Below.drew ?_) | (refine Below.alloc ?_ (by first | omega | (simp; omega) | simp) _) | (refine Below.setCell ?_ (by first | omega | (simp; omega) | simp) _) | (refine below_trans ?_ (by assumption) (by first | omega | (simp; omega) | simp))))⟩
  by_cases h2 : p.least < 1
  · have f0 : decide (p.pct < 1) = false := by simp; omega
    have f1 : decide (10000 < p.pct) = false := by simp; omega
    have f2 : decide ((p.least : Int) < 1) = true := by simp; omega
    clear hbad h0 h1 h2
    obtain ⟨pct, least, live, on, est, room, credit, done, made, ds⟩ := p
    simp only at *
    go_enter Try.func18, Try.ntmps18
    go_wp2
    go_ret
    exact ⟨rfl, (by repeat (first | exact Below.refl _ _ | assumption | (refine below_drewN ?_ _) | (refine Below.drew ?_) | (refine Below.alloc ?_ (by first | omega | (simp; omega) | simp) _) | (refine Below.setCell ?_ (by first | omega | (simp; omega) | simp) _) | (refine below_trans ?_ (by assumption) (by first | omega | (simp; omega) | simp))))⟩
  by_cases h3 : 1099511627776 < p.least
  · have f0 : decide (p.pct < 1) = false := by simp; omega
    have f1 : decide (10000 < p.pct) = false := by simp; omega
    have f2 : decide ((p.least : Int) < 1) = false := by simp; omega
    have f3 : decide (1099511627776 < (p.least : Int)) = true := by simp; omega
    clear hbad h0 h1 h2 h3
    obtain ⟨pct, least, live, on, est, room, credit, done, made, ds⟩ := p
    simp only at *
    go_enter Try.func18, Try.ntmps18
    go_wp2
    go_ret
    exact ⟨rfl, (by repeat (first | exact Below.refl _ _ | assumption | (refine below_drewN ?_ _) | (refine Below.drew ?_) | (refine Below.alloc ?_ (by first | omega | (simp; omega) | simp) _) | (refine Below.setCell ?_ (by first | omega | (simp; omega) | simp) _) | (refine below_trans ?_ (by assumption) (by first | omega | (simp; omega) | simp))))⟩
  by_cases h4 : 1099511627776 < p.live
  · have f0 : decide (p.pct < 1) = false := by simp; omega
    have f1 : decide (10000 < p.pct) = false := by simp; omega
    have f2 : decide ((p.least : Int) < 1) = false := by simp; omega
    have f3 : decide (1099511627776 < (p.least : Int)) = false := by simp; omega
    have f4 : decide (1099511627776 < (p.live : Int)) = true := by simp; omega
    clear hbad h0 h1 h2 h3 h4
    obtain ⟨pct, least, live, on, est, room, credit, done, made, ds⟩ := p
    simp only at *
    go_enter Try.func18, Try.ntmps18
    go_wp2
    go_ret
    exact ⟨rfl, (by repeat (first | exact Below.refl _ _ | assumption | (refine below_drewN ?_ _) | (refine Below.drew ?_) | (refine Below.alloc ?_ (by first | omega | (simp; omega) | simp) _) | (refine Below.setCell ?_ (by first | omega | (simp; omega) | simp) _) | (refine below_trans ?_ (by assumption) (by first | omega | (simp; omega) | simp))))⟩
  by_cases h5 : p.ds.length < 1
  · have f0 : decide (p.pct < 1) = false := by simp; omega
    have f1 : decide (10000 < p.pct) = false := by simp; omega
    have f2 : decide ((p.least : Int) < 1) = false := by simp; omega
    have f3 : decide (1099511627776 < (p.least : Int)) = false := by simp; omega
    have f4 : decide (1099511627776 < (p.live : Int)) = false := by simp; omega
    have f5 : decide ((p.ds.length : Int) < 1) = true := by simp; omega
    clear hbad h0 h1 h2 h3 h4 h5
    obtain ⟨pct, least, live, on, est, room, credit, done, made, ds⟩ := p
    simp only at *
    go_enter Try.func18, Try.ntmps18
    go_wp2
    go_ret
    exact ⟨rfl, (by repeat (first | exact Below.refl _ _ | assumption | (refine below_drewN ?_ _) | (refine Below.drew ?_) | (refine Below.alloc ?_ (by first | omega | (simp; omega) | simp) _) | (refine Below.setCell ?_ (by first | omega | (simp; omega) | simp) _) | (refine below_trans ?_ (by assumption) (by first | omega | (simp; omega) | simp))))⟩
  by_cases h6 : 4 < p.ds.length
  · have f0 : decide (p.pct < 1) = false := by simp; omega
    have f1 : decide (10000 < p.pct) = false := by simp; omega
    have f2 : decide ((p.least : Int) < 1) = false := by simp; omega
    have f3 : decide (1099511627776 < (p.least : Int)) = false := by simp; omega
    have f4 : decide (1099511627776 < (p.live : Int)) = false := by simp; omega
    have f5 : decide ((p.ds.length : Int) < 1) = false := by simp; omega
    have f6 : decide (4 < (p.ds.length : Int)) = true := by simp; omega
    clear hbad h0 h1 h2 h3 h4 h5 h6
    obtain ⟨pct, least, live, on, est, room, credit, done, made, ds⟩ := p
    simp only at *
    go_enter Try.func18, Try.ntmps18
    go_wp2
    go_ret
    exact ⟨rfl, (by repeat (first | exact Below.refl _ _ | assumption | (refine below_drewN ?_ _) | (refine Below.drew ?_) | (refine Below.alloc ?_ (by first | omega | (simp; omega) | simp) _) | (refine Below.setCell ?_ (by first | omega | (simp; omega) | simp) _) | (refine below_trans ?_ (by assumption) (by first | omega | (simp; omega) | simp))))⟩
  exfalso; omega
set_option maxHeartbeats 4000000 in
theorem xpcheck_any (hf : FitP p) (hr : Row w w.heap.size A p.ds) (y : Int) (hy : ChkP p y) :
    Calls Try.prog 18 #[(.agg #[.int .i64 p.pct, .int .u64 (p.least : Nat), .int .u64 (p.live : Nat), .bool p.on, .int .u64 (p.est : Nat), .int .u64 (p.room : Nat), .int .u64 (p.credit : Nat), .int .u64 (p.done : Nat), .int .u64 (p.made : Nat), .slice A p.ds.length c])] w fun e w' => e = .returned (.int .i64 y) ∧ Below w.heap.size w w' := by
  by_cases hbad : p.pct < 1 ∨ 10000 < p.pct ∨ p.least < 1 ∨ 1099511627776 < p.least ∨ 1099511627776 < p.live ∨ p.ds.length < 1 ∨ 4 < p.ds.length
  · exact xpcheck_pre c y hy hbad
  have f0 : decide (p.pct < 1) = false := by simp; omega
  have f1 : decide (10000 < p.pct) = false := by simp; omega
  have f2 : decide ((p.least : Int) < 1) = false := by simp; omega
  have f3 : decide (1099511627776 < (p.least : Int)) = false := by simp; omega
  have f4 : decide (1099511627776 < (p.live : Int)) = false := by simp; omega
  have f5 : decide ((p.ds.length : Int) < 1) = false := by simp; omega
  have f6 : decide (4 < (p.ds.length : Int)) = false := by simp; omega
  have HY := Lib.hid hy
  have HR := Lib.hid (okP_ref p)
  have hpre : Hid (1 ≤ p.pct ∧ p.pct ≤ 10000 ∧ 1 ≤ p.least ∧ p.least ≤ 1099511627776 ∧ p.live ≤ 1099511627776 ∧ 1 ≤ p.ds.length ∧ p.ds.length ≤ 4) := Lib.hid (by omega)
  obtain ⟨b, off, rfl, hbb, hcc⟩ := hr.at_ (by omega)
  have h0 : 0 < p.ds.length := by omega
  have h4 : p.ds.length ≤ 4 := by omega
  have hsrc := Lib.hid fun (W : World) (hW : Below w.heap.size w W) => hr.src2 hW (b := b) (off := off)
  have HW := Lib.hid (numsX_words hf)
  have HWS : Hid (Words (numsX p ++ p.ds)) := Lib.hid fun x hx => by
    rcases List.mem_append.1 hx with hx | hx
    · exact numsX_words hf x hx
    · exact hf.ds x hx
  obtain ⟨i0, hi, hz0, hz1, hz2⟩ := info_parts info_u64
  clear hf hcc hbad hy
  have HALL : Hid (numsX p ++ p.ds = numsX p ++ p.ds) := Lib.hid rfl
  obtain ⟨all, hall⟩ : ∃ all, Hid (numsX p ++ p.ds = all) := ⟨_, rfl⟩
  have HLN : Hid (all.length = 5 + p.ds.length) := Lib.hid (by rw [← hall.out]; simp [numsX]; omega)
  have HVA : Hid (vals all = vals (numsX p) ++ vals p.ds) := Lib.hid (by rw [← hall.out, vals_app])
  rw [hall.out] at HR HWS
  unfold numsX at HVA
  obtain ⟨pct, least, live, on, est, room, credit, done, made, ds⟩ := p
  simp only at *
  have HOW := World.ownsRow_lit (e := 22) (size := 1) (base := w.heap.size) (w.alloc (.cells #[.int .i64 pct, .int .u64 (least : Nat), .int .u64 (live : Nat), .bool on, .int .u64 (est : Nat), .int .u64 (room : Nat), .int .u64 (credit : Nat), .int .u64 (done : Nat), .int .u64 (made : Nat), .slice (some ⟨b, off, none⟩) ds.length c] 25)) (vals [est, room, credit, done, made]).toArray 5 (by simp) (by unfold maxLen; omega) rfl
  simp only [World.size_alloc] at HOW
  have HOWN := Lib.hid HOW
  clear HOW
  have HAL : all.length ≤ 9 := by have := HLN.out; omega
  cases on
  · go_enter Try.func18, Try.ntmps18
    go_wp2_with (at_builtin; refine wpList_append_lies _ ?_ (.tmp 51) (.tmp 53) 23 ?_ w.heap.size 22 i0 _ 1 8 Try.underlying23 hi hz0 hz1 hz2 rfl (by omega) (.slice (some ⟨w.heap.size + 1, 0, none⟩) 5 5) 5 (vals [est, room, credit, done, made]) ?_ ?_ ⟨b, off, none⟩ ds.length c (vals ds) ?_ (by rw [length_vals, Nat.mul_one]) (hsrc.out _ (by repeat (first | exact Below.refl _ _ | assumption | (refine below_drewN ?_ _) | (refine Below.drew ?_) | (refine Below.alloc ?_ (by first | omega | (simp; omega) | simp) _) | (refine Below.setCell ?_ (by first | omega | (simp; omega) | simp) _) | (refine below_trans ?_ (by assumption) (by first | omega | (simp; omega) | simp))))) (vals_one ds) h0 (by unfold maxLen; omega) (by omega) (by simp only [World.size_alloc]; omega) _ rfl ?_; rfl; rfl; rfl; exact HOWN.out; rfl; intro g cap2 w2 hown2 hg2 hat2 hlt2; have hb_w2 : Below w.heap.size _ w2 := (Below.refl _ _).grown hg2 (by simp only [World.size_alloc]; omega) (fun k hk => (by simp [Value.ownBlock] at hk; omega)); rw [← HVA.out] at hown2)
    have t0 := ((Ten.new w (.int .i64 pct) (.int .u64 (least : Nat)) (.int .u64 (live : Nat)) (.bool false) (.int .u64 (est : Nat)) (.int .u64 (room : Nat)) (.int .u64 (credit : Nat)) (.int .u64 (done : Nat)) (.int .u64 (made : Nat)) (.slice (some ⟨b, off, none⟩) ds.length c) 25).later ((Below.refl _ _).alloc (Nat.le_refl _) (.cells #[.int .u64 (est : Nat), .int .u64 (room : Nat), .int .u64 (credit : Nat), .int .u64 (done : Nat), .int .u64 (made : Nat)] 22))).grown hg2 (by simp [Value.ownBlock])
    have row2 := (⟨HLN.out, HWS.out, hown2⟩ : OwnsN w2 w.heap.size (some ⟨g, 0, none⟩) (5 + ds.length) cap2 all).row
    have s2 := hb_w2.size
    (try simp only [World.size_alloc] at s2)
    have hlt0 := t0.lt
    clear hown2 hg2 hat2 hlt2
    obtain ⟨n0, n1, n2, n3, n4, n5, n6, n7, n8, n9, nf⟩ := t0
    have HL := HLN.out
    have HL2 := Lib.hid HL
    clear HL
    go_wp2_with fail
    go_loopw [57] (fun ii wr => ∃ k : Nat, ii = .int .i64 (k : Nat) ∧ k ≤ 5 + ds.length ∧ Hid (∀ j, j < k → ¬ badX false (all.getD j 0)) ∧ wr = w2) (fun ii _ => 5 + ds.length - (intOf ii).toNat)
    case atStart => exact ⟨0, rfl, Nat.zero_le _, Lib.hid (fun j hj => by omega), rfl⟩
    case round =>
      obtain ⟨k, rfl, hkl, HB, rfl⟩ := hrel
      by_cases hlt : k < 5 + ds.length
      · obtain ⟨bb, oo, e1, hb3, hcc⟩ := row2.cellAt (k := k) (by rw [HL2.out]; exact hlt)
        obtain ⟨rfl, rfl⟩ : g = bb ∧ 0 = oo := by injection e1 with e1; injection e1 with e1 e2; exact ⟨e1, e2⟩
        rw [Nat.zero_add] at hcc
        have i1 : (k : Int) < 5 + (ds.length : Int) := by omega
        have i2 : (0 : Int) ≤ (k : Int) := by omega
        have i3 : (k : Int) < ((5 + ds.length : Nat) : Int) := by omega
        obtain ⟨x, hx⟩ : ∃ x, Hid (all.getD k 0 = x) := ⟨_, rfl⟩
        rw [hx.out] at hcc
        clear e1
        by_cases hb : badX false x
        · obtain rfl : y = 2 := by
            rcases HY.out with ⟨h, _⟩ | ⟨_, h⟩
            · exact absurd (by rw [hx.out]; exact hb) ((HR.out.1 h).2.1 k (by rw [HL2.out]; exact hlt))
            · exact h
          by_cases hM : 1099511627776 < x
          · have f8 : decide (1099511627776 < (x : Int)) = true := by simp; omega
            clear hb hM
            go_wp2
            go_ret
            exact ⟨rfl, (by repeat (first | exact Below.refl _ _ | assumption | (refine below_drewN ?_ _) | (refine Below.drew ?_) | (refine Below.alloc ?_ (by first | omega | (simp; omega) | simp) _) | (refine Below.setCell ?_ (by first | omega | (simp; omega) | simp) _) | (refine below_trans ?_ (by assumption) (by first | omega | (simp; omega) | simp))))⟩
          · have f8 : decide (1099511627776 < (x : Int)) = false := by simp; omega
            have f7 : 0 < x := by
              unfold badX at hb
              omega
            have f9 : decide (0 < x) = true := by simpa using f7
            clear hb hM
            go_wp2
            go_ret
            exact ⟨rfl, (by repeat (first | exact Below.refl _ _ | assumption | (refine below_drewN ?_ _) | (refine Below.drew ?_) | (refine Below.alloc ?_ (by first | omega | (simp; omega) | simp) _) | (refine Below.setCell ?_ (by first | omega | (simp; omega) | simp) _) | (refine below_trans ?_ (by assumption) (by first | omega | (simp; omega) | simp))))⟩
        · have hN : Hid (∀ j, j < k + 1 → ¬ badX false (all.getD j 0)) := Lib.hid fun j hj => (by
            by_cases e : j = k
            · rw [e, hx.out]; exact hb
            · exact HB.out j (by omega))
          unfold badX at hb
          have f8 : decide (1099511627776 < (x : Int)) = false := by simp; omega
          have f7 : x = 0 := by
            simp only [true_and] at hb
            omega
          subst f7
          clear hb
          go_wp2
          go_roundw
          case rel => exact ⟨k + 1, by go_num, by omega, hN, (by trivial)⟩
          case measure => simp [intOf]; omega
      · have HBB : Hid (∀ j, j < all.length → ¬ badX false (all.getD j 0)) := Lib.hid fun j hj => HB.out j (by have := HL2.out; omega)
        clear HB
        obtain rfl : y = 0 := by
          rcases HY.out with ⟨_, h⟩ | ⟨h, _⟩
          · exact h
          · exact absurd (HR.out.2 ⟨hpre.out, HBB.out, fun e => (by cases e)⟩) h
        go_wp2
        go_ret
        exact ⟨rfl, (by repeat (first | exact Below.refl _ _ | assumption | (refine below_drewN ?_ _) | (refine Below.drew ?_) | (refine Below.alloc ?_ (by first | omega | (simp; omega) | simp) _) | (refine Below.setCell ?_ (by first | omega | (simp; omega) | simp) _) | (refine below_trans ?_ (by assumption) (by first | omega | (simp; omega) | simp))))⟩
  · go_enter Try.func18, Try.ntmps18
    go_wp2_with (at_builtin; refine wpList_append_lies _ ?_ (.tmp 51) (.tmp 53) 23 ?_ w.heap.size 22 i0 _ 1 8 Try.underlying23 hi hz0 hz1 hz2 rfl (by omega) (.slice (some ⟨w.heap.size + 1, 0, none⟩) 5 5) 5 (vals [est, room, credit, done, made]) ?_ ?_ ⟨b, off, none⟩ ds.length c (vals ds) ?_ (by rw [length_vals, Nat.mul_one]) (hsrc.out _ (by repeat (first | exact Below.refl _ _ | assumption | (refine below_drewN ?_ _) | (refine Below.drew ?_) | (refine Below.alloc ?_ (by first | omega | (simp; omega) | simp) _) | (refine Below.setCell ?_ (by first | omega | (simp; omega) | simp) _) | (refine below_trans ?_ (by assumption) (by first | omega | (simp; omega) | simp))))) (vals_one ds) h0 (by unfold maxLen; omega) (by omega) (by simp only [World.size_alloc]; omega) _ rfl ?_; rfl; rfl; rfl; exact HOWN.out; rfl; intro g cap2 w2 hown2 hg2 hat2 hlt2; have hb_w2 : Below w.heap.size _ w2 := (Below.refl _ _).grown hg2 (by simp only [World.size_alloc]; omega) (fun k hk => (by simp [Value.ownBlock] at hk; omega)); rw [← HVA.out] at hown2)
    have t0 := ((Ten.new w (.int .i64 pct) (.int .u64 (least : Nat)) (.int .u64 (live : Nat)) (.bool true) (.int .u64 (est : Nat)) (.int .u64 (room : Nat)) (.int .u64 (credit : Nat)) (.int .u64 (done : Nat)) (.int .u64 (made : Nat)) (.slice (some ⟨b, off, none⟩) ds.length c) 25).later ((Below.refl _ _).alloc (Nat.le_refl _) (.cells #[.int .u64 (est : Nat), .int .u64 (room : Nat), .int .u64 (credit : Nat), .int .u64 (done : Nat), .int .u64 (made : Nat)] 22))).grown hg2 (by simp [Value.ownBlock])
    have row2 := (⟨HLN.out, HWS.out, hown2⟩ : OwnsN w2 w.heap.size (some ⟨g, 0, none⟩) (5 + ds.length) cap2 all).row
    have s2 := hb_w2.size
    (try simp only [World.size_alloc] at s2)
    have hlt0 := t0.lt
    clear hown2 hg2 hat2 hlt2
    obtain ⟨n0, n1, n2, n3, n4, n5, n6, n7, n8, n9, nf⟩ := t0
    have HL := HLN.out
    have HL2 := Lib.hid HL
    clear HL
    go_wp2_with fail
    go_loopw [57] (fun ii wr => ∃ k : Nat, ii = .int .i64 (k : Nat) ∧ k ≤ 5 + ds.length ∧ Hid (∀ j, j < k → ¬ badX true (all.getD j 0)) ∧ wr = w2) (fun ii _ => 5 + ds.length - (intOf ii).toNat)
    case atStart => exact ⟨0, rfl, Nat.zero_le _, Lib.hid (fun j hj => by omega), rfl⟩
    case round =>
      obtain ⟨k, rfl, hkl, HB, rfl⟩ := hrel
      by_cases hlt : k < 5 + ds.length
      · obtain ⟨bb, oo, e1, hb3, hcc⟩ := row2.cellAt (k := k) (by rw [HL2.out]; exact hlt)
        obtain ⟨rfl, rfl⟩ : g = bb ∧ 0 = oo := by injection e1 with e1; injection e1 with e1 e2; exact ⟨e1, e2⟩
        rw [Nat.zero_add] at hcc
        have i1 : (k : Int) < 5 + (ds.length : Int) := by omega
        have i2 : (0 : Int) ≤ (k : Int) := by omega
        have i3 : (k : Int) < ((5 + ds.length : Nat) : Int) := by omega
        obtain ⟨x, hx⟩ : ∃ x, Hid (all.getD k 0 = x) := ⟨_, rfl⟩
        rw [hx.out] at hcc
        clear e1
        by_cases hb : badX true x
        · obtain rfl : y = 2 := by
            rcases HY.out with ⟨h, _⟩ | ⟨_, h⟩
            · exact absurd (by rw [hx.out]; exact hb) ((HR.out.1 h).2.1 k (by rw [HL2.out]; exact hlt))
            · exact h
          by_cases hM : 1099511627776 < x
          · have f8 : decide (1099511627776 < (x : Int)) = true := by simp; omega
            clear hb hM
            go_wp2
            go_ret
            exact ⟨rfl, (by repeat (first | exact Below.refl _ _ | assumption | (refine below_drewN ?_ _) | (refine Below.drew ?_) | (refine Below.alloc ?_ (by first | omega | (simp; omega) | simp) _) | (refine Below.setCell ?_ (by first | omega | (simp; omega) | simp) _) | (refine below_trans ?_ (by assumption) (by first | omega | (simp; omega) | simp))))⟩
          · have f8 : decide (1099511627776 < (x : Int)) = false := by simp; omega
            exfalso
            unfold badX at hb
            simp at hb
            omega
        · have hN : Hid (∀ j, j < k + 1 → ¬ badX true (all.getD j 0)) := Lib.hid fun j hj => (by
            by_cases e : j = k
            · rw [e, hx.out]; exact hb
            · exact HB.out j (by omega))
          unfold badX at hb
          have f8 : decide (1099511627776 < (x : Int)) = false := by simp; omega
          clear hb
          go_wp2
          go_roundw
          case rel => exact ⟨k + 1, by go_num, by omega, hN, (by trivial)⟩
          case measure => simp [intOf]; omega
      · have HBB : Hid (∀ j, j < all.length → ¬ badX true (all.getD j 0)) := Lib.hid fun j hj => HB.out j (by have := HL2.out; omega)
        clear HB
        by_cases h1 : 1 ≤ est ∧ 1 ≤ room
        · have f8 : decide ((est : Int) < 1) = false := by simp; omega
          have f9 : decide ((room : Int) < 1) = false := by simp; omega
          obtain rfl : y = 0 := by
            rcases HY.out with ⟨_, h⟩ | ⟨h, _⟩
            · exact h
            · exact absurd (HR.out.2 ⟨hpre.out, HBB.out, fun _ => h1⟩) h
          clear h1
          go_wp2
          go_ret
          exact ⟨rfl, (by repeat (first | exact Below.refl _ _ | assumption | (refine below_drewN ?_ _) | (refine Below.drew ?_) | (refine Below.alloc ?_ (by first | omega | (simp; omega) | simp) _) | (refine Below.setCell ?_ (by first | omega | (simp; omega) | simp) _) | (refine below_trans ?_ (by assumption) (by first | omega | (simp; omega) | simp))))⟩
        · obtain rfl : y = 2 := by
            rcases HY.out with ⟨h, _⟩ | ⟨_, h⟩
            · exact absurd ((HR.out.1 h).2.2 (by trivial)) h1
            · exact h
          by_cases h2 : est < 1
          · have f8 : decide ((est : Int) < 1) = true := by simp; omega
            clear h1 h2
            go_wp2
            go_ret
            exact ⟨rfl, (by repeat (first | exact Below.refl _ _ | assumption | (refine below_drewN ?_ _) | (refine Below.drew ?_) | (refine Below.alloc ?_ (by first | omega | (simp; omega) | simp) _) | (refine Below.setCell ?_ (by first | omega | (simp; omega) | simp) _) | (refine below_trans ?_ (by assumption) (by first | omega | (simp; omega) | simp))))⟩
          · have f8 : decide ((est : Int) < 1) = false := by simp; omega
            have f9 : decide ((room : Int) < 1) = true := by simp; omega
            clear h1 h2
            go_wp2
            go_ret
            exact ⟨rfl, (by repeat (first | exact Below.refl _ _ | assumption | (refine below_drewN ?_ _) | (refine Below.drew ?_) | (refine Below.alloc ?_ (by first | omega | (simp; omega) | simp) _) | (refine Below.setCell ?_ (by first | omega | (simp; omega) | simp) _) | (refine below_trans ?_ (by assumption) (by first | omega | (simp; omega) | simp))))⟩
end
end Go.Proofs.Ytkdbcoibapcmjaa
