/- Contracts of package asm: valid, Check. -/
import Derived.Test.YtndaccekemjdmaaGreatDoorAs8
import Derived.Test.YtndaccekemjdmaaGreatDoorJ2
namespace Go.Proofs.YtndaccekemjdmaaGreatDoor
open Go.RowKit
set_option linter.unusedVariables false
set_option linter.unusedSimpArgs false
/-- the numbers that an instruction can hold -/
structure InR (x : In) : Prop where
  oa : I63 x.oa
  ob : I63 x.ob
  fd : I63 x.fd
  n : I63 x.n
  m : x.m < 18446744073709551616
  w : x.w < 18446744073709551616
  a : I63 x.a
  b : I63 x.b
  to : I63 x.to
def gV (o : Nat) (x : In) : Int := if o = 5 ∨ o = 6 then getO o x else IntKind.u64.wrap (getO o x)
theorem wrap_u (v : Int) (h : I63 v) : IntKind.u64.wrap v = if 0 ≤ v then v else v + 18446744073709551616 := by
  unfold I63 at h
  unfold IntKind.wrap
  simp [IntKind.signed, IntKind.bits]
  omega
theorem gV_spec {x : In} (hx : InR x) (o : Nat) (ho1 : 1 ≤ o) (ho9 : o ≤ 9) (c : Int) (hc0 : 0 ≤ c) (hc1 : c ≤ 256) : (inO c x o ∧ gV o x = getO o x ∧ ¬ mostO o c < gV o x ∧ 0 ≤ gV o x ∧ ((o = 5 ∨ o = 6) ∨ gV o x < 9223372036854775808)) ∨ (¬ inO c x o ∧ mostO o c < gV o x) := by
  obtain ⟨h1, h2, h3, h4, h5, h6, h7, h8, h9⟩ := hx
  have hcs : o = 1 ∨ o = 2 ∨ o = 3 ∨ o = 4 ∨ o = 5 ∨ o = 6 ∨ o = 7 ∨ o = 8 ∨ o = 9 := by omega
  unfold inO gV
  rcases hcs with rfl | rfl | rfl | rfl | rfl | rfl | rfl | rfl | rfl
  case inr.inr.inr.inr.inl => left; simp [getO, mostO]; omega
  case inr.inr.inr.inr.inr.inl => left; simp [getO, mostO]; omega
  all_goals
    simp only [getO, mostO, Nat.reduceEqDiff, or_self, if_false, false_or]
    first | rw [wrap_u _ h1] | rw [wrap_u _ h2] | rw [wrap_u _ h3] | rw [wrap_u _ h4] | rw [wrap_u _ h7] | rw [wrap_u _ h8] | rw [wrap_u _ h9]
    unfold I63 at *
    split
    all_goals omega
theorem mkN_snoc (x : In) (os : List Nat) (o : Nat) (z : In) : mkN x (os ++ [o]) z = putO o (getO o x) (mkN x os z) := by simp [mkN]
theorem mkN_next (x : In) (os : List Nat) (k : Nat) (hk : k < os.length) (z : In) : mkN x (os.take (k + 1)) z = putO (os.getD k 0) (getO (os.getD k 0) x) (mkN x (os.take k) z) := by
  rw [List.take_add_one, List.getElem?_eq_getElem hk, Option.toList_some, mkN_snoc]
  simp [hk]
theorem ORow.set {w : World} {b off G : Nat} {os : List Nat} (h : ORow w (some ⟨b, off, none⟩) os) (hne : b ≠ G) (j : Nat) (v : Value) : ORow (w.setCell ⟨G, j, none⟩ v) (some ⟨b, off, none⟩) os :=
  ⟨h.in_, fun hl => by
    obtain ⟨b', off', e, hlt, hc⟩ := h.at_ hl
    simp only [Option.some.injEq, Addr.mk.injEq, and_true] at e
    obtain ⟨rfl, rfl⟩ := e
    exact ⟨b, off, rfl, by simpa using hlt, fun i hi => by
      rw [← hc i hi]
      simp [go_sem, hne]⟩⟩
section
variable {w : World}
theorem formOf_some {x : In} {f : Fm} (hL : Lw w) (h : formOf x = some f) : Calls Tryz.prog 50 #[.agg #[.int .u8 x.kd, .int .u8 x.op, .int .i64 x.oa, .int .i64 x.ob, .int .i64 x.fd, .int .i64 x.n, .int .u64 x.m, .int .u64 x.w, .int .i64 x.a, .int .i64 x.b, .int .i64 x.to]] w fun e w' => e = .returned (.tuple #[.agg #[.string (bs f.nm), .int .u8 f.kd, .int .u8 f.op, .int .i64 (opn f 0), .int .i64 (opn f 1), .int .i64 (opn f 2)], .bool true]) ∧ Below w.heap.size w w' := by
  have := formOf_any (w := w) x hL
  rw [h] at this
  exact this
theorem formOf_none {x : In} (hL : Lw w) (h : formOf x = none) : Calls Tryz.prog 50 #[.agg #[.int .u8 x.kd, .int .u8 x.op, .int .i64 x.oa, .int .i64 x.ob, .int .i64 x.fd, .int .i64 x.n, .int .u64 x.m, .int .u64 x.w, .int .i64 x.a, .int .i64 x.b, .int .i64 x.to]] w fun e w' => e = .returned (.tuple #[.agg #[.string (bs fm0.nm), .int .u8 fm0.kd, .int .u8 fm0.op, .int .i64 (opn fm0 0), .int .i64 (opn fm0 1), .int .i64 (opn fm0 2)], .bool false]) ∧ Below w.heap.size w w' := by
  have := formOf_any (w := w) x hL
  rw [h] at this
  exact this
theorem bare_agg (f : Fm) : Calls Tryz.prog 51 #[.agg #[.string (bs f.nm), .int .u8 f.kd, .int .u8 f.op, .int .i64 (opn f 0), .int .i64 (opn f 1), .int .i64 (opn f 2)]] w fun e w' => e = .returned (.agg #[.int .u8 (bare f).kd, .int .u8 (bare f).op, .int .i64 (bare f).oa, .int .i64 (bare f).ob, .int .i64 (bare f).fd, .int .i64 (bare f).n, .int .u64 (bare f).m, .int .u64 (bare f).w, .int .i64 (bare f).a, .int .i64 (bare f).b, .int .i64 (bare f).to]) ∧ Below w.heap.size w w' := bare_any f
theorem list_agg (f : Fm) (hf : WfF f) : Calls Tryz.prog 52 #[.agg #[.string (bs f.nm), .int .u8 f.kd, .int .u8 f.op, .int .i64 (opn f 0), .int .i64 (opn f 1), .int .i64 (opn f 2)]] w fun e w' => ∃ A cap, e = .returned (.slice A f.os.length cap) ∧ (ORow w' A f.os ∧ ∀ a, A = some a → w.heap.size ≤ a.block) ∧ Below w.heap.size w w' := list_any f hf
theorem get_agg (o : Nat) (h0 : 1 ≤ o) (h : o ≤ 9) (x : In) : Calls Tryz.prog 53 #[.int .i64 (o : Nat), .agg #[.int .u8 x.kd, .int .u8 x.op, .int .i64 x.oa, .int .i64 x.ob, .int .i64 x.fd, .int .i64 x.n, .int .u64 x.m, .int .u64 x.w, .int .i64 x.a, .int .i64 x.b, .int .i64 x.to]] w fun e w' => e = .returned (.int .u64 (gV o x)) ∧ Below w.heap.size w w' := get_any o h0 h x
set_option maxRecDepth 100000 in
set_option maxHeartbeats 8000000 in
theorem valid_any (x : In) (c : Int) (hc0 : 0 ≤ c) (hc1 : c ≤ 256) (hx : InR x) (hL : Lw w) (b : Bool) (hb : b = true ↔ OkI c x) : Calls Tryz.prog 30 #[.agg #[.int .u8 x.kd, .int .u8 x.op, .int .i64 x.oa, .int .i64 x.ob, .int .i64 x.fd, .int .i64 x.n, .int .u64 x.m, .int .u64 x.w, .int .i64 x.a, .int .i64 x.b, .int .i64 x.to], .int .i64 c] w fun e w' => e = .returned (.bool b) ∧ Below w.heap.size w w' := by
  have hX := Lib.hid (In11.new w x 37)
  cases hfo : formOf x with
  | none =>
    have HFO := Lib.hid fun (w : World) hL => formOf_none (w := w) (x := x) hL hfo
    obtain rfl : b = false := by
      cases b with
      | false => rfl
      | true =>
        obtain ⟨f, hf, _⟩ := hb.1 rfl
        rw [hfo] at hf
        cases hf
    clear hb
    go_enter Tryz.func30, Tryz.ntmps30
    go_wp2_with fail
    go_at_call 50
    refine (HFO.out _ (hL.later (by repeat (first | exact Below.refl _ _ | assumption | (refine below_drewN ?_ _) | (refine Below.drew ?_) | (refine Below.alloc ?_ (by first | omega | (simp; omega) | simp) _) | (refine Below.setCell ?_ (by first | omega | (simp; omega) | simp) _) | (refine below_trans ?_ (by assumption) (by first | omega | (simp; omega) | simp)))))).mono ?_
    rintro e w1 ⟨rfl, hb_w1⟩
    obtain ⟨hc_w1, hf_w1⟩ := bcell hb_w1; have hz_w1_w_0 : w.heap.size < w1.heap.size := (by have hzz := hb_w1.size; (try simp only [World.size_alloc, World.size_setCell, World.size_drew, World.heap_drewN] at hzz); omega); have hs_w1 := hb_w1.size; (try simp only [World.size_alloc, World.size_setCell, World.size_drew, World.heap_drewN] at hs_w1)
    go_wp2
    go_ret
    exact ⟨rfl, (by repeat (first | exact Below.refl _ _ | assumption | (refine below_drewN ?_ _) | (refine Below.drew ?_) | (refine Below.alloc ?_ (by first | omega | (simp; omega) | simp) _) | (refine Below.setCell ?_ (by first | omega | (simp; omega) | simp) _) | (refine below_trans ?_ (by assumption) (by first | omega | (simp; omega) | simp))))⟩
  | some f =>
    have HFO := Lib.hid fun (w : World) hL => formOf_some (w := w) (x := x) hL hfo
    have hwf : WfF f := by have := formOf_wf x; rw [hfo] at this; exact this
    have HWF := Lib.hid hwf
    have HB : Hid (b = true ↔ (∀ o ∈ f.os, inO c x o) ∧ mkI f x = x ∧ Sh x.n x.m) := Lib.hid (hb.trans ⟨fun ⟨f', h1, h2⟩ => by rw [hfo] at h1; injection h1 with h1; subst h1; exact h2, fun h => ⟨f, hfo, h⟩⟩)
    have HBA := Lib.hid fun (w : World) => bare_agg (w := w) f
    have HLI := Lib.hid fun (w : World) => list_agg (w := w) f hwf
    have HGE := Lib.hid fun (w : World) (o : Nat) h1 h9 => get_agg (w := w) o h1 h9 x
    have HGV := Lib.hid fun (o : Nat) h1 h9 => gV_spec hx o h1 h9 c hc0 hc1
    have hop : Hid (∀ k, k < f.os.length → 1 ≤ f.os.getD k 0 ∧ f.os.getD k 0 ≤ 9) := Lib.hid fun k hk => by
      rw [List.getD_eq_getElem?_getD, List.getElem?_eq_getElem hk]
      exact hwf.2 _ (List.getElem_mem hk)
    have hl3 := hwf.1
    have HQ := Lib.hid fun (z : In) (r : Bool) hr (W : World) => eqlI z x W r hr
    have hgd := eq_guard
    have hsm : x.m < W64 := hx.m
    have HSM := Lib.hid hsm
    clear hb hfo hwf hsm
    go_enter Tryz.func30, Tryz.ntmps30
    go_wp2_with fail
    go_at_call 50
    refine (HFO.out _ (hL.later (by repeat (first | exact Below.refl _ _ | assumption | (refine below_drewN ?_ _) | (refine Below.drew ?_) | (refine Below.alloc ?_ (by first | omega | (simp; omega) | simp) _) | (refine Below.setCell ?_ (by first | omega | (simp; omega) | simp) _) | (refine below_trans ?_ (by assumption) (by first | omega | (simp; omega) | simp)))))).mono ?_
    rintro e w1 ⟨rfl, hb_w1⟩
    obtain ⟨hc_w1, hf_w1⟩ := bcell hb_w1; have hz_w1_w_0 : w.heap.size < w1.heap.size := (by have hzz := hb_w1.size; (try simp only [World.size_alloc, World.size_setCell, World.size_drew, World.heap_drewN] at hzz); omega); have hs_w1 := hb_w1.size; (try simp only [World.size_alloc, World.size_setCell, World.size_drew, World.heap_drewN] at hs_w1)
    have hX1 := Lib.hid (hX.out.later hb_w1)
    have b1 : Below w.heap.size w w1 := (by repeat (first | exact Below.refl _ _ | assumption | (refine below_drewN ?_ _) | (refine Below.drew ?_) | (refine Below.alloc ?_ (by first | omega | (simp; omega) | simp) _) | (refine Below.setCell ?_ (by first | omega | (simp; omega) | simp) _) | (refine below_trans ?_ (by assumption) (by first | omega | (simp; omega) | simp))))
    have g1 : w.heap.size < w1.heap.size := hX1.out.lt
    go_wp2_with fail
    go_at_call 51
    refine (HBA.out _).mono ?_
    rintro e w2 ⟨rfl, hb_w2⟩
    obtain ⟨hc_w2, hf_w2⟩ := bcell hb_w2; have hz_w2_w1_0 : w1.heap.size < w2.heap.size := (by have hzz := hb_w2.size; (try simp only [World.size_alloc, World.size_setCell, World.size_drew, World.heap_drewN] at hzz); omega); have hs_w2 := hb_w2.size; (try simp only [World.size_alloc, World.size_setCell, World.size_drew, World.heap_drewN] at hs_w2)
    have b2 : Below w.heap.size w w2 := (by repeat (first | exact Below.refl _ _ | assumption | (refine below_drewN ?_ _) | (refine Below.drew ?_) | (refine Below.alloc ?_ (by first | omega | (simp; omega) | simp) _) | (refine Below.setCell ?_ (by first | omega | (simp; omega) | simp) _) | (refine below_trans ?_ (by assumption) (by first | omega | (simp; omega) | simp))))
    have hF2 : Hid (Fm6 w2 w1.heap.size f) := Lib.hid ((Fm6.new w1 f 99).later hb_w2)
    have hX2 := Lib.hid (hX1.out.later (show Below w1.heap.size w1 w2 from below_trans (Below.alloc (Below.refl _ _) (Nat.le_refl _) _) hb_w2 (by simp)))
    have g2 : w1.heap.size < w2.heap.size := hF2.out.lt
    obtain ⟨f0, f1, f2, f3, f4, f5⟩ := id hF2.out
    go_wp2_with fail
    go_at_call 52
    refine (HLI.out _).mono ?_
    rintro e w3 ⟨A, cap, rfl, ⟨hor, hab0⟩, hb_w3⟩
    obtain ⟨hc_w3, hf_w3⟩ := bcell hb_w3; have hz_w3_w2_0 : w2.heap.size < w3.heap.size := (by have hzz := hb_w3.size; (try simp only [World.size_alloc, World.size_setCell, World.size_drew, World.heap_drewN] at hzz); omega); have hs_w3 := hb_w3.size; (try simp only [World.size_alloc, World.size_setCell, World.size_drew, World.heap_drewN] at hs_w3)
    have b3 : Below w.heap.size w w3 := (by repeat (first | exact Below.refl _ _ | assumption | (refine below_drewN ?_ _) | (refine Below.drew ?_) | (refine Below.alloc ?_ (by first | omega | (simp; omega) | simp) _) | (refine Below.setCell ?_ (by first | omega | (simp; omega) | simp) _) | (refine below_trans ?_ (by assumption) (by first | omega | (simp; omega) | simp))))
    have hM3 : Hid (In11 w3 w2.heap.size 0 (bare f)) := Lib.hid ((In11.new w2 (bare f) 37).later hb_w3)
    have hZ3 : Hid (∀ o, w3.frozen? ⟨w2.heap.size, o, none⟩ = false) := Lib.hid (fz_later (fz_new w2 #[.int .u8 (bare f).kd, .int .u8 (bare f).op, .int .i64 (bare f).oa, .int .i64 (bare f).ob, .int .i64 (bare f).fd, .int .i64 (bare f).n, .int .u64 (bare f).m, .int .u64 (bare f).w, .int .i64 (bare f).a, .int .i64 (bare f).b, .int .i64 (bare f).to] 37) hb_w3 (by simp))
    have hX3 := Lib.hid (hX2.out.later (show Below w2.heap.size w2 w3 from below_trans (Below.alloc (Below.refl _ _) (Nat.le_refl _) _) hb_w3 (by simp)))
    have hor3 := Lib.hid hor
    have hab1 : Hid (∀ a, A = some a → w2.heap.size < a.block) := Lib.hid fun a ha => by have := hab0 a ha; simp only [World.size_alloc] at this; omega
    have g3 : w2.heap.size < w3.heap.size := hM3.out.lt
    clear hor hab0 f0 f1 f2 f3 f4 f5 hF2 hX1 hX2 hX hb_w1 hb_w2 hb_w3 hc_w1 hf_w1 hc_w2 hf_w2 hc_w3 hf_w3
    generalize hg2 : w2.heap.size = G at *
    have hG0 : w.heap.size < G := by omega
    clear hg2
    go_wp2_with fail
    go_loopw [23] (fun ii wr => ∃ k : Nat, ii = .int .i64 (k : Nat) ∧ k ≤ f.os.length ∧ Hid (∀ j, j < k → inO c x (f.os.getD j 0)) ∧ Hid (In11 wr G 0 (mkN x (f.os.take k) (bare f))) ∧ Hid (∀ o, wr.frozen? ⟨G, o, none⟩ = false) ∧ Hid (In11 wr w.heap.size 0 x) ∧ Hid (ORow wr A f.os) ∧ Below w.heap.size w wr) (fun ii _ => f.os.length - (intOf ii).toNat)
    case atStart => exact ⟨0, rfl, Nat.zero_le _, Lib.hid (fun j hj => by omega), hM3, hZ3, hX3, hor3, b3⟩
    case round =>
      clear hM3 hZ3 hX3 hor3
      have HAB := hab1
      obtain ⟨k, rfl, hk, HA, HM, HZ, HX, HO, hb_wr⟩ := hrel
      have hsr := hb_wr.size
      have hgr := HM.out.lt
      by_cases hlt : k < f.os.length
      · obtain ⟨ab, aoff, rfl, hab, hac⟩ := HO.out.at_ (by rw [opI_len]; omega)
        have hak := hac k (by rw [opI_len]; exact hlt)
        rw [opI_get f.os k hlt] at hak
        obtain ⟨p1, p9⟩ := hop.out k hlt
        have hk0 : (0 : Int) ≤ (k : Int) := by omega
        have hk1 : (k : Int) < (f.os.length : Int) := by omega
        have HN := Lib.hid (mkN_next x f.os k hlt (bare f))
        have hgv := HGV.out _ p1 p9
        clear hac
        generalize ho : f.os.getD k 0 = o at *
        obtain ⟨c0, c1, c2, c3, c4, c5, c6, c7, c8, c9, c10⟩ := id HX.out
        simp only [Nat.zero_add] at c0 c1 c2 c3 c4 c5 c6 c7 c8 c9 c10
        rcases hgv with ⟨q1, q2, q3, q4, q5⟩ | ⟨q1, q3⟩
        · have e1 : decide (mostO o c < gV o x) = false := decide_eq_false (by omega)
          have HQ2 := Lib.hid q2
          clear q2 q3
          have HA2 : Hid (∀ j, j < k + 1 → inO c x (f.os.getD j 0)) := Lib.hid fun j hj => by
            by_cases e : j = k
            · rw [e, ho]; exact q1
            · exact HA.out j (by omega)
          have HPV := Lib.hid fun (W : World) (s : In) h1 h2 => put_any (w := W) o p1 p9 (gV o x) q4 q5 G s h1 h2
          have HMP := Lib.hid fun (W : World) (s : In) (h : In11 W G 0 s) => h.put o p1 p9 (gV o x) q4
          have HMO := Lib.hid fun (W : World) => most_any (w := W) o p1 p9 c hc0 (by omega)
          have HGO := Lib.hid fun (W : World) => HGE.out W o p1 p9
          clear q1 q4 q5 ho
          go_wp2_with fail
          go_at_call 53
          refine (HGO.out _).mono ?_
          rintro e w4 ⟨rfl, hb_w4⟩
          obtain ⟨hc_w4, hf_w4⟩ := bcell hb_w4; have hs_w4 := hb_w4.size; (try simp only [World.size_alloc, World.size_setCell, World.size_drew, World.heap_drewN] at hs_w4)
          go_wp2_with fail
          go_at_call 54
          refine (HMO.out _).mono ?_
          rintro e w5 ⟨rfl, rfl⟩
          go_wp2_with fail
          go_at_call 55
          refine (HPV.out _ _ (HM.out.later hb_w4) (fz_later HZ.out hb_w4 hgr)).mono ?_
          rintro e w6 ⟨rfl, rfl⟩
          have HM5 := HMP.out _ _ (HM.out.later hb_w4)
          have HN2 := HN.out
          rw [← HQ2.out] at HN2
          rw [← HN2] at HM5
          clear HN2
          have b5 : Below wr.heap.size wr w5 := hb_w4
          have hM5 := Lib.hid HM5
          have hZ5 : Hid (∀ o', (w5.setCell ⟨G, jO o, none⟩ (vO o (gV o x))).frozen? ⟨G, o', none⟩ = false) := Lib.hid (fz_put (fz_later HZ.out hb_w4 hgr) _ _)
          have hnw : ¬ w.heap.size = G := by omega
          have hX5 : Hid (In11 (w5.setCell ⟨G, jO o, none⟩ (vO o (gV o x))) w.heap.size 0 x) := Lib.hid ((HX.out.later hb_w4).keep fun o' => by simp [go_sem, hnw])
          have hO5 : Hid (ORow (w5.setCell ⟨G, jO o, none⟩ (vO o (gV o x))) (some ⟨ab, aoff, none⟩) f.os) := Lib.hid ((HO.out.later hb_w4).set (by have := HAB.out _ rfl; simp only at this; omega) _ _)
          have hb5 : Below w.heap.size w (w5.setCell ⟨G, jO o, none⟩ (vO o (gV o x))) := below_put o _ (below_trans hb_wr hb_w4 hsr) (by omega)
          go_wp2
          go_roundw
          case rel => exact ⟨k + 1, by go_num, by omega, HA2, hM5, hZ5, hX5, hO5, hb5⟩
          case measure => simp [intOf]; omega
        · have e1 : decide (mostO o c < gV o x) = true := decide_eq_true q3
          obtain rfl : b = false := by
            cases b with
            | false => rfl
            | true =>
              exfalso
              apply q1
              rw [← ho]
              refine (HB.out.1 rfl).1 _ ?_
              rw [List.getD_eq_getElem?_getD, List.getElem?_eq_getElem hlt]
              exact List.getElem_mem hlt
          have HMO := Lib.hid fun (W : World) => most_any (w := W) o p1 p9 c hc0 (by omega)
          have HGO := Lib.hid fun (W : World) => HGE.out W o p1 p9
          clear q1 q3 ho
          go_wp2_with fail
          go_at_call 53
          refine (HGO.out _).mono ?_
          rintro e w4 ⟨rfl, hb_w4⟩
          obtain ⟨hc_w4, hf_w4⟩ := bcell hb_w4; have hs_w4 := hb_w4.size; (try simp only [World.size_alloc, World.size_setCell, World.size_drew, World.heap_drewN] at hs_w4)
          go_wp2_with fail
          go_at_call 54
          refine (HMO.out _).mono ?_
          rintro e w5 ⟨rfl, rfl⟩
          go_wp2
          go_ret
          exact ⟨rfl, (by repeat (first | exact Below.refl _ _ | assumption | (refine below_drewN ?_ _) | (refine Below.drew ?_) | (refine Below.alloc ?_ (by first | omega | (simp; omega) | simp) _) | (refine Below.setCell ?_ (by first | omega | (simp; omega) | simp) _) | (refine below_trans ?_ (by assumption) (by first | omega | (simp; omega) | simp))))⟩
      · obtain rfl : k = f.os.length := by omega
        have hal : ∀ o ∈ f.os, inO c x o := fun o ho => by
          obtain ⟨j, hj, rfl⟩ := List.getElem_of_mem ho
          have := HA.out j hj
          rwa [List.getD_eq_getElem?_getD, List.getElem?_eq_getElem hj] at this
        have hb2 := HB.out
        have HM2 := HM.out
        rw [List.take_length] at HM2
        have hmk : mkN x f.os (bare f) = mkI f x := rfl
        rw [hmk] at HM2
        clear HM hmk HA
        generalize mkI f x = z at *
        obtain ⟨c0, c1, c2, c3, c4, c5, c6, c7, c8, c9, c10⟩ := id HX.out
        simp only [Nat.zero_add] at c0 c1 c2 c3 c4 c5 c6 c7 c8 c9 c10
        obtain ⟨d0, d1, d2, d3, d4, d5, d6, d7, d8, d9, d10⟩ := id HM2
        simp only [Nat.zero_add] at d0 d1 d2 d3 d4 d5 d6 d7 d8 d9 d10
        by_cases hz : z = x
        · have hq := HQ.out z true ⟨fun _ => hz, fun _ => rfl⟩
          unfold inv at hq
          by_cases hs : Sh x.n x.m
          · obtain rfl : b = true := hb2.2 ⟨hal, hz, hs⟩
            have HS := Lib.hid fun (W : World) => hcheck_ok (w := W) hs
            clear hs hal hb2 hz HM2
            go_wp2_with fail
            go_at_call 56
            refine (HS.out _).mono ?_
            rintro e w4 ⟨rfl, hb_w4⟩
            obtain ⟨hc_w4, hf_w4⟩ := bcell hb_w4; have hs_w4 := hb_w4.size; (try simp only [World.size_alloc, World.size_setCell, World.size_drew, World.heap_drewN] at hs_w4)
            go_wp2
            go_ret
            exact ⟨rfl, (by repeat (first | exact Below.refl _ _ | assumption | (refine below_drewN ?_ _) | (refine Below.drew ?_) | (refine Below.alloc ?_ (by first | omega | (simp; omega) | simp) _) | (refine Below.setCell ?_ (by first | omega | (simp; omega) | simp) _) | (refine below_trans ?_ (by assumption) (by first | omega | (simp; omega) | simp))))⟩
          · obtain rfl : b = false := by
              cases b with
              | false => rfl
              | true => exact absurd (hb2.1 rfl).2.2 hs
            have HS := Lib.hid fun (W : World) => hcheck_bad (w := W) HSM.out hs
            clear hs hal hb2 hz HM2
            go_wp2_with fail
            go_at_call 56
            refine (HS.out _).mono ?_
            rintro e w4 ⟨rfl, hb_w4⟩
            obtain ⟨hc_w4, hf_w4⟩ := bcell hb_w4; have hs_w4 := hb_w4.size; (try simp only [World.size_alloc, World.size_setCell, World.size_drew, World.heap_drewN] at hs_w4)
            go_wp2
            go_ret
            exact ⟨rfl, (by repeat (first | exact Below.refl _ _ | assumption | (refine below_drewN ?_ _) | (refine Below.drew ?_) | (refine Below.alloc ?_ (by first | omega | (simp; omega) | simp) _) | (refine Below.setCell ?_ (by first | omega | (simp; omega) | simp) _) | (refine below_trans ?_ (by assumption) (by first | omega | (simp; omega) | simp))))⟩
        · have hq := HQ.out z false ⟨fun h => (by cases h), fun h => absurd h hz⟩
          unfold inv at hq
          obtain rfl : b = false := by
            cases b with
            | false => rfl
            | true => exact absurd (hb2.1 rfl).2.1 hz
          clear hal hb2 hz HM2
          go_wp2
          go_ret
          exact ⟨rfl, (by repeat (first | exact Below.refl _ _ | assumption | (refine below_drewN ?_ _) | (refine Below.drew ?_) | (refine Below.alloc ?_ (by first | omega | (simp; omega) | simp) _) | (refine Below.setCell ?_ (by first | omega | (simp; omega) | simp) _) | (refine below_trans ?_ (by assumption) (by first | omega | (simp; omega) | simp))))⟩
end
end Go.Proofs.YtndaccekemjdmaaGreatDoor
