/- The walk of ScriptWrites. -/
import Derived.Test.YtklbamkafldagaaDoorSe30
namespace Go.Proofs.YtklbamkafldagaaDoor
open Go.RowKit
set_option linter.unusedVariables false
set_option linter.unusedSimpArgs false
section
variable {w : World}
theorem AllWf.kinds {l : List Ev} (h : AllWf l) : ∀ e ∈ l, 0 ≤ e.k := fun e he => by
  have := (h e he).k
  simp [Lit.wf, IntKind.min, IntKind.max, IntKind.signed, IntKind.bits] at this
  omega
theorem print_both {A : Option Addr} {l : List Ev} (cap : Nat) (hl : l.length ≤ 17592186044416) (hk : ∀ e ∈ l, 0 ≤ e.k) : ∃ (P : ByteArray) (y : Int),
    (∀ (w : World), ERow w w.heap.size A l → Lw w → Calls Tryd.prog 12 #[.slice A l.length cap] w fun e w' => e = .returned (.tuple #[.string P, .int .i64 y]) ∧ Below w.heap.size w w') ∧
    (∀ (w : World), ERow w w.heap.size A l → Calls Tryd.prog 13 #[.slice A l.length cap] w fun e w' => e = .returned (.tuple #[.string P, .int .i64 y]) ∧ Below w.heap.size w w') := by
  by_cases hok : OkL l
  · refine ⟨bs (printL l), 0, fun w hr hL => Calls.mono (print_any cap hr hl hL) ?_, fun w hr => Calls.mono (xprint_any cap hr hl hk) ?_⟩
    · rintro e w' ⟨⟨_, rfl⟩ | ⟨h, _⟩, hb⟩
      · exact ⟨rfl, hb⟩
      · exact absurd hok h
    · rintro e w' ⟨⟨_, rfl⟩ | ⟨h, _⟩, hb⟩
      · exact ⟨rfl, hb⟩
      · exact absurd hok h
  · refine ⟨bs [], 2, fun w hr hL => Calls.mono (print_any cap hr hl hL) ?_, fun w hr => Calls.mono (xprint_any cap hr hl hk) ?_⟩
    · rintro e w' ⟨⟨h, _⟩ | ⟨_, rfl⟩, hb⟩
      · exact absurd h hok
      · exact ⟨rfl, hb⟩
    · rintro e w' ⟨⟨h, _⟩ | ⟨_, rfl⟩, hb⟩
      · exact absurd h hok
      · exact ⟨rfl, hb⟩
theorem fold_both {A : Option Addr} {l : List Ev} (cap : Nat) (hl : l.length ≤ 17592186044416) (hk : ∀ e ∈ l, 0 ≤ e.k) : ∃ (F : List Ev) (y : Int), F.length ≤ 17592186044416 ∧
    (∀ (w : World), ERow w w.heap.size A l → Calls Tryd.prog 14 #[.slice A l.length cap] w fun e w' => LstR w F y e w') ∧
    (∀ (w : World), ERow w w.heap.size A l → Calls Tryd.prog 15 #[.slice A l.length cap] w fun e w' => LstR w F y e w') := by
  by_cases hok : OkL l
  · exact ⟨foldL l, 0, Nat.le_trans (length_foldL l) hl, fun w hr => scriptFold_any cap hr hl _ _ (.inl ⟨hok, rfl, rfl⟩), fun w hr => xfold_any cap hr hl hk _ _ (.inl ⟨hok, rfl, rfl⟩)⟩
  · exact ⟨[], 2, Nat.zero_le _, fun w hr => scriptFold_any cap hr hl _ _ (.inr ⟨hok, rfl, rfl⟩), fun w hr => xfold_any cap hr hl hk _ _ (.inr ⟨hok, rfl, rfl⟩)⟩
theorem spread_both {A : Option Addr} {l : List Ev} (cap : Nat) (hl : l.length ≤ 17592186044416) (hk : ∀ e ∈ l, 0 ≤ e.k) : ∃ (F : List Ev) (y : Int), F.length ≤ 17592186044416 ∧
    (∀ (w : World), ERow w w.heap.size A l → Calls Tryd.prog 16 #[.slice A l.length cap] w fun e w' => LstR w F y e w') ∧
    (∀ (w : World), ERow w w.heap.size A l → Calls Tryd.prog 17 #[.slice A l.length cap] w fun e w' => LstR w F y e w') := by
  by_cases hok : OkL l
  · by_cases hst : stepsL l ≤ 4096
    · have hln := length_spread hok.2
      exact ⟨spreadL l, 0, by omega, fun w hr => spread_any cap hr hl _ _ (.inl ⟨hok, hst, rfl, rfl⟩), fun w hr => xspread_any cap hr hl hk _ _ (.inl ⟨hok, hst, rfl, rfl⟩)⟩
    · exact ⟨[], 6, Nat.zero_le _, fun w hr => spread_any cap hr hl _ _ (.inr (.inl ⟨hok, by omega, rfl, rfl⟩)), fun w hr => xspread_any cap hr hl hk _ _ (.inr (.inl ⟨hok, by omega, rfl, rfl⟩))⟩
  · exact ⟨[], 2, Nat.zero_le _, fun w hr => spread_any cap hr hl _ _ (.inr (.inr ⟨hok, rfl, rfl⟩)), fun w hr => xspread_any cap hr hl hk _ _ (.inr (.inr ⟨hok, rfl, rfl⟩))⟩
theorem steps_both {A C : Option Addr} {l of : List Ev} (cap cc : Nat) (hl : l.length ≤ 17592186044416) (hol : of.length ≤ 17592186044416) (hk : ∀ e ∈ l, 0 ≤ e.k) (hwo : AllWf of) : ∃ (n : Int) (y : Int),
    (∀ (w : World), ERow w w.heap.size A l → ERow w w.heap.size C of → Calls Tryd.prog 18 #[.slice A l.length cap, .slice C of.length cc] w fun e w' => e = .returned (.tuple #[.int .i64 n, .int .i64 y]) ∧ Below w.heap.size w w') ∧
    (∀ (w : World), ERow w w.heap.size A l → ERow w w.heap.size C of → Calls Tryd.prog 19 #[.slice A l.length cap, .slice C of.length cc] w fun e w' => e = .returned (.tuple #[.int .i64 n, .int .i64 y]) ∧ Below w.heap.size w w') := by
  by_cases hok : OkL l
  · exact ⟨stepsO l of, 0, fun w hr ho => steps_any cap cc hr ho hl hol hwo _ _ (.inl ⟨hok, rfl, rfl⟩), fun w hr ho => xsteps_any cap cc hr ho hl hol hk _ _ (.inl ⟨hok, rfl, rfl⟩)⟩
  · exact ⟨0, 2, fun w hr ho => steps_any cap cc hr ho hl hol hwo _ _ (.inr ⟨hok, rfl, rfl⟩), fun w hr ho => xsteps_any cap cc hr ho hl hol hk _ _ (.inr ⟨hok, rfl, rfl⟩)⟩
theorem check_both {A : Option Addr} {l : List Ev} (cap : Nat) (hl : l.length ≤ 17592186044416) (hk : ∀ e ∈ l, 0 ≤ e.k) : ∃ (y : Int),
    (∀ (w : World), ERow w w.heap.size A l → Calls Tryd.prog 20 #[.slice A l.length cap] w fun e w' => e = .returned (.int .i64 y) ∧ Below w.heap.size w w') ∧
    (∀ (w : World), ERow w w.heap.size A l → Calls Tryd.prog 21 #[.slice A l.length cap] w fun e w' => e = .returned (.int .i64 y) ∧ Below w.heap.size w w') := by
  by_cases hok : OkL l
  · exact ⟨0, fun w hr => check_any cap hr hl _ (.inl ⟨hok, rfl⟩), fun w hr => xcheck_any cap hr hl hk _ (.inl ⟨hok, rfl⟩)⟩
  · exact ⟨2, fun w hr => check_any cap hr hl _ (.inr ⟨hok, rfl⟩), fun w hr => xcheck_any cap hr hl hk _ (.inr ⟨hok, rfl⟩)⟩
set_option maxRecDepth 100000 in
set_option maxHeartbeats 8000000 in
theorem scriptWrites_walk (A C : Option Addr) (cap cc : Nat) (l of : List Ev) (hL : Lw w) (hr : ERow w w.heap.size A l) (ho : ERow w w.heap.size C of) (hl : l.length ≤ 17592186044416) (hol : of.length ≤ 17592186044416) (hwl : AllWf l) (hwo : AllWf of) :
    Calls Tryd.prog 4 #[.slice A l.length cap, .slice C of.length cc] w fun r w' => r = .returned (.bool true) ∧ Below w.heap.size w w' := by
  have HLV := Lib.hid fun (w : World) hL => lives_any (w := w) hL
  obtain ⟨P, yp, H1, H2⟩ := print_both (A := A) cap hl hwl.kinds
  obtain ⟨F, yf, hfl, H3, H4⟩ := fold_both (A := A) cap hl hwl.kinds
  obtain ⟨S, ys, hsl, H5, H6⟩ := spread_both (A := A) cap hl hwl.kinds
  obtain ⟨n, yn, H7, H8⟩ := steps_both (A := A) (C := C) cap cc hl hol hwl.kinds hwo
  obtain ⟨yc, H9, H10⟩ := check_both (A := A) cap hl hwl.kinds
  replace H1 := Lib.hid H1
  replace H2 := Lib.hid H2
  replace H3 := Lib.hid H3
  replace H4 := Lib.hid H4
  replace H5 := Lib.hid H5
  replace H6 := Lib.hid H6
  replace H7 := Lib.hid H7
  replace H8 := Lib.hid H8
  replace H9 := Lib.hid H9
  replace H10 := Lib.hid H10
  have HSF := Lib.hid fun (w : World) (F1 G1 : Option Addr) (fc gc : Nat) hr hq => same_any (w := w) (A := F1) (C := G1) (l := F) (m := F) fc gc hr hq hfl hfl true (by simp)
  have HSS := Lib.hid fun (w : World) (F1 G1 : Option Addr) (fc gc : Nat) hr hq => same_any (w := w) (A := F1) (C := G1) (l := S) (m := S) fc gc hr hq hsl hsl true (by simp)
  have HRF := Lib.hid fun (W : World) (A : Option Addr) (cap B : Nat) (h : OwnsE W B (.slice A F.length cap) F) => ERow.of_owns h
  have HRS := Lib.hid fun (W : World) (A : Option Addr) (cap B : Nat) (h : OwnsE W B (.slice A S.length cap) S) => ERow.of_owns h
  clear hwl hwo hfl hsl
  go_enter Tryd.func4, Tryd.ntmps4
  go_wp2_with fail
  go_at_call 12
  refine (H1.out _ (hr.later (by repeat (first | exact Below.refl _ _ | assumption | (refine below_drewN ?_ _) | (refine Below.drew ?_) | (refine Below.alloc ?_ (by first | omega | (simp; omega) | simp) _) | (refine Below.setCell ?_ (by first | omega | (simp; omega) | simp) _) | (refine below_trans ?_ (by assumption) (by first | omega | (simp; omega) | simp))))) (hL.later (by repeat (first | exact Below.refl _ _ | assumption | (refine below_drewN ?_ _) | (refine Below.drew ?_) | (refine Below.alloc ?_ (by first | omega | (simp; omega) | simp) _) | (refine Below.setCell ?_ (by first | omega | (simp; omega) | simp) _) | (refine below_trans ?_ (by assumption) (by first | omega | (simp; omega) | simp)))))).mono ?_
  rintro e w1 ⟨rfl, hb_w1⟩
  obtain ⟨hc_w1, hf_w1⟩ := bcell hb_w1; have hs_w1 := hb_w1.size; (try simp only [World.size_alloc, World.size_setCell, World.size_drew, World.heap_drewN] at hs_w1)
  go_wp2_with fail
  go_at_call 13
  refine (H2.out _ (hr.later (by repeat (first | exact Below.refl _ _ | assumption | (refine below_drewN ?_ _) | (refine Below.drew ?_) | (refine Below.alloc ?_ (by first | omega | (simp; omega) | simp) _) | (refine Below.setCell ?_ (by first | omega | (simp; omega) | simp) _) | (refine below_trans ?_ (by assumption) (by first | omega | (simp; omega) | simp)))))).mono ?_
  rintro e w2 ⟨rfl, hb_w2⟩
  obtain ⟨hc_w2, hf_w2⟩ := bcell hb_w2; have hs_w2 := hb_w2.size; (try simp only [World.size_alloc, World.size_setCell, World.size_drew, World.heap_drewN] at hs_w2)
  go_wp2_with fail
  go_at_call 14
  refine (H3.out _ (hr.later (by repeat (first | exact Below.refl _ _ | assumption | (refine below_drewN ?_ _) | (refine Below.drew ?_) | (refine Below.alloc ?_ (by first | omega | (simp; omega) | simp) _) | (refine Below.setCell ?_ (by first | omega | (simp; omega) | simp) _) | (refine below_trans ?_ (by assumption) (by first | omega | (simp; omega) | simp)))))).mono ?_
  rintro e w3 ⟨F1, f1, rfl, o1, hb_w3⟩
  obtain ⟨hc_w3, hf_w3⟩ := bcell hb_w3; have hs_w3 := hb_w3.size; (try simp only [World.size_alloc, World.size_setCell, World.size_drew, World.heap_drewN] at hs_w3)
  have r1 := Lib.hid (HRF.out _ _ _ _ o1)
  clear o1
  go_wp2_with fail
  go_at_call 15
  refine (H4.out _ (hr.later (by repeat (first | exact Below.refl _ _ | assumption | (refine below_drewN ?_ _) | (refine Below.drew ?_) | (refine Below.alloc ?_ (by first | omega | (simp; omega) | simp) _) | (refine Below.setCell ?_ (by first | omega | (simp; omega) | simp) _) | (refine below_trans ?_ (by assumption) (by first | omega | (simp; omega) | simp)))))).mono ?_
  rintro e w4 ⟨F2, f2, rfl, o2, hb_w4⟩
  obtain ⟨hc_w4, hf_w4⟩ := bcell hb_w4; have hs_w4 := hb_w4.size; (try simp only [World.size_alloc, World.size_setCell, World.size_drew, World.heap_drewN] at hs_w4)
  have r2 := Lib.hid (HRF.out _ _ _ _ o2)
  clear o2
  go_wp2_with fail
  go_at_call 16
  refine (H5.out _ (hr.later (by repeat (first | exact Below.refl _ _ | assumption | (refine below_drewN ?_ _) | (refine Below.drew ?_) | (refine Below.alloc ?_ (by first | omega | (simp; omega) | simp) _) | (refine Below.setCell ?_ (by first | omega | (simp; omega) | simp) _) | (refine below_trans ?_ (by assumption) (by first | omega | (simp; omega) | simp)))))).mono ?_
  rintro e w5 ⟨F3, f3, rfl, o3, hb_w5⟩
  obtain ⟨hc_w5, hf_w5⟩ := bcell hb_w5; have hs_w5 := hb_w5.size; (try simp only [World.size_alloc, World.size_setCell, World.size_drew, World.heap_drewN] at hs_w5)
  have r3 := Lib.hid (HRS.out _ _ _ _ o3)
  clear o3
  go_wp2_with fail
  go_at_call 17
  refine (H6.out _ (hr.later (by repeat (first | exact Below.refl _ _ | assumption | (refine below_drewN ?_ _) | (refine Below.drew ?_) | (refine Below.alloc ?_ (by first | omega | (simp; omega) | simp) _) | (refine Below.setCell ?_ (by first | omega | (simp; omega) | simp) _) | (refine below_trans ?_ (by assumption) (by first | omega | (simp; omega) | simp)))))).mono ?_
  rintro e w6 ⟨F4, f4, rfl, o4, hb_w6⟩
  obtain ⟨hc_w6, hf_w6⟩ := bcell hb_w6; have hs_w6 := hb_w6.size; (try simp only [World.size_alloc, World.size_setCell, World.size_drew, World.heap_drewN] at hs_w6)
  have r4 := Lib.hid (HRS.out _ _ _ _ o4)
  clear o4
  go_wp2_with fail
  go_at_call 18
  refine (H7.out _ (hr.later (by repeat (first | exact Below.refl _ _ | assumption | (refine below_drewN ?_ _) | (refine Below.drew ?_) | (refine Below.alloc ?_ (by first | omega | (simp; omega) | simp) _) | (refine Below.setCell ?_ (by first | omega | (simp; omega) | simp) _) | (refine below_trans ?_ (by assumption) (by first | omega | (simp; omega) | simp))))) (ho.later (by repeat (first | exact Below.refl _ _ | assumption | (refine below_drewN ?_ _) | (refine Below.drew ?_) | (refine Below.alloc ?_ (by first | omega | (simp; omega) | simp) _) | (refine Below.setCell ?_ (by first | omega | (simp; omega) | simp) _) | (refine below_trans ?_ (by assumption) (by first | omega | (simp; omega) | simp)))))).mono ?_
  rintro e w7 ⟨rfl, hb_w7⟩
  obtain ⟨hc_w7, hf_w7⟩ := bcell hb_w7; have hs_w7 := hb_w7.size; (try simp only [World.size_alloc, World.size_setCell, World.size_drew, World.heap_drewN] at hs_w7)
  go_wp2_with fail
  go_at_call 19
  refine (H8.out _ (hr.later (by repeat (first | exact Below.refl _ _ | assumption | (refine below_drewN ?_ _) | (refine Below.drew ?_) | (refine Below.alloc ?_ (by first | omega | (simp; omega) | simp) _) | (refine Below.setCell ?_ (by first | omega | (simp; omega) | simp) _) | (refine below_trans ?_ (by assumption) (by first | omega | (simp; omega) | simp))))) (ho.later (by repeat (first | exact Below.refl _ _ | assumption | (refine below_drewN ?_ _) | (refine Below.drew ?_) | (refine Below.alloc ?_ (by first | omega | (simp; omega) | simp) _) | (refine Below.setCell ?_ (by first | omega | (simp; omega) | simp) _) | (refine below_trans ?_ (by assumption) (by first | omega | (simp; omega) | simp)))))).mono ?_
  rintro e w8 ⟨rfl, hb_w8⟩
  obtain ⟨hc_w8, hf_w8⟩ := bcell hb_w8; have hs_w8 := hb_w8.size; (try simp only [World.size_alloc, World.size_setCell, World.size_drew, World.heap_drewN] at hs_w8)
  go_wp2_with fail
  go_at_call 10
  refine (HLV.out _ (hL.later (by repeat (first | exact Below.refl _ _ | assumption | (refine below_drewN ?_ _) | (refine Below.drew ?_) | (refine Below.alloc ?_ (by first | omega | (simp; omega) | simp) _) | (refine Below.setCell ?_ (by first | omega | (simp; omega) | simp) _) | (refine below_trans ?_ (by assumption) (by first | omega | (simp; omega) | simp)))))).mono ?_
  rintro e w9 ⟨rfl, hb_w9⟩
  obtain ⟨hc_w9, hf_w9⟩ := bcell hb_w9; have hs_w9 := hb_w9.size; (try simp only [World.size_alloc, World.size_setCell, World.size_drew, World.heap_drewN] at hs_w9)
  go_wp2_with fail
  go_at_call 11
  refine (HSF.out _ _ _ _ _ (r1.out.later (by repeat (first | exact Below.refl _ _ | assumption | (refine below_drewN ?_ _) | (refine Below.drew ?_) | (refine Below.alloc ?_ (by first | omega | (simp; omega) | simp) _) | (refine Below.setCell ?_ (by first | omega | (simp; omega) | simp) _) | (refine below_trans ?_ (by assumption) (by first | omega | (simp; omega) | simp))))) (r2.out.later (by repeat (first | exact Below.refl _ _ | assumption | (refine below_drewN ?_ _) | (refine Below.drew ?_) | (refine Below.alloc ?_ (by first | omega | (simp; omega) | simp) _) | (refine Below.setCell ?_ (by first | omega | (simp; omega) | simp) _) | (refine below_trans ?_ (by assumption) (by first | omega | (simp; omega) | simp)))))).mono ?_
  rintro e w10 ⟨rfl, hb_w10⟩
  obtain ⟨hc_w10, hf_w10⟩ := bcell hb_w10; have hs_w10 := hb_w10.size; (try simp only [World.size_alloc, World.size_setCell, World.size_drew, World.heap_drewN] at hs_w10)
  go_wp2_with fail
  go_at_call 11
  refine (HSS.out _ _ _ _ _ (r3.out.later (by repeat (first | exact Below.refl _ _ | assumption | (refine below_drewN ?_ _) | (refine Below.drew ?_) | (refine Below.alloc ?_ (by first | omega | (simp; omega) | simp) _) | (refine Below.setCell ?_ (by first | omega | (simp; omega) | simp) _) | (refine below_trans ?_ (by assumption) (by first | omega | (simp; omega) | simp))))) (r4.out.later (by repeat (first | exact Below.refl _ _ | assumption | (refine below_drewN ?_ _) | (refine Below.drew ?_) | (refine Below.alloc ?_ (by first | omega | (simp; omega) | simp) _) | (refine Below.setCell ?_ (by first | omega | (simp; omega) | simp) _) | (refine below_trans ?_ (by assumption) (by first | omega | (simp; omega) | simp)))))).mono ?_
  rintro e w11 ⟨rfl, hb_w11⟩
  obtain ⟨hc_w11, hf_w11⟩ := bcell hb_w11; have hs_w11 := hb_w11.size; (try simp only [World.size_alloc, World.size_setCell, World.size_drew, World.heap_drewN] at hs_w11)
  go_wp2_with fail
  go_at_call 20
  refine (H9.out _ (hr.later (by repeat (first | exact Below.refl _ _ | assumption | (refine below_drewN ?_ _) | (refine Below.drew ?_) | (refine Below.alloc ?_ (by first | omega | (simp; omega) | simp) _) | (refine Below.setCell ?_ (by first | omega | (simp; omega) | simp) _) | (refine below_trans ?_ (by assumption) (by first | omega | (simp; omega) | simp)))))).mono ?_
  rintro e w12 ⟨rfl, hb_w12⟩
  obtain ⟨hc_w12, hf_w12⟩ := bcell hb_w12; have hs_w12 := hb_w12.size; (try simp only [World.size_alloc, World.size_setCell, World.size_drew, World.heap_drewN] at hs_w12)
  go_wp2_with fail
  go_at_call 21
  refine (H10.out _ (hr.later (by repeat (first | exact Below.refl _ _ | assumption | (refine below_drewN ?_ _) | (refine Below.drew ?_) | (refine Below.alloc ?_ (by first | omega | (simp; omega) | simp) _) | (refine Below.setCell ?_ (by first | omega | (simp; omega) | simp) _) | (refine below_trans ?_ (by assumption) (by first | omega | (simp; omega) | simp)))))).mono ?_
  rintro e w13 ⟨rfl, hb_w13⟩
  obtain ⟨hc_w13, hf_w13⟩ := bcell hb_w13; have hs_w13 := hb_w13.size; (try simp only [World.size_alloc, World.size_setCell, World.size_drew, World.heap_drewN] at hs_w13)
  go_wp2
  go_ret
  exact ⟨rfl, (by repeat (first | exact Below.refl _ _ | assumption | (refine below_drewN ?_ _) | (refine Below.drew ?_) | (refine Below.alloc ?_ (by first | omega | (simp; omega) | simp) _) | (refine Below.setCell ?_ (by first | omega | (simp; omega) | simp) _) | (refine below_trans ?_ (by assumption) (by first | omega | (simp; omega) | simp))))⟩
end
end Go.Proofs.YtklbamkafldagaaDoor
