/- Contracts of the document's package: fill. -/
import Derived.Test.YtggaijdbaplfiaaGreatDoorAs40
import Derived.Test.YtggaijdbaplfiaaGreatDoorAM2
import Derived.Deep.CutRange
namespace Go.Proofs.YtggaijdbaplfiaaGreatDoor
open Go.RowKit
set_option linter.unusedVariables false
set_option linter.unusedSimpArgs false
/-- what fill answers -/
def FillR (o : Nat) (s : List UInt8) (x : In) (e : Ending) : Prop := ∃ (y : In) (b : Bool), e = .returned (.tuple #[inv y, .bool b]) ∧ (b = true → fillO o s x = some y) ∧ (b = false → fillO o s x = none)
theorem res_in2 {fn : Func} {p u : Tmp} (h : fn.results = #[.cell p 37, .tmp u]) {tmps : Array Value} {w : World} {g : Nat} {s : In} (hp : tmps.getD p undef = .pointer (some ⟨g, 0, none⟩)) (c : In11 w g 0 s) : (results fn tmps).run Tryz.prog w = .ok (.tuple #[inv s, tmps.getD u undef]) w := by
  obtain ⟨h0, h1, h2, h3, h4, h5, h6, h7, h8, h9, h10⟩ := c
  simp only [Nat.zero_add] at h0 h1 h2 h3 h4 h5 h6 h7 h8 h9 h10
  rw [results_cell_tmp h, hp]
  simp [go_sem, Result.andThen, h0, h1, h2, h3, h4, h5, h6, h7, h8, h9, h10, asAddr, inv]
/-- the boxes of fill: the instruction, the answer -/
structure FB (w wx : World) (x z : In) : Prop where
  a : In11 wx w.heap.size 0 x
  b : In11 wx (w.heap.size + 1) 0 z
  fa : ∀ o, wx.frozen? ⟨w.heap.size, o, none⟩ = false
  fb : ∀ o, wx.frozen? ⟨w.heap.size + 1, o, none⟩ = false
  below : Below w.heap.size w wx
theorem FB.later {w wx wy : World} {x z : In} (h : FB w wx x z) (hb : Below wx.heap.size wx wy) : FB w wy x z :=
  ⟨h.a.later hb, h.b.later hb, fun o => ((bcell hb).2 _ _ h.a.lt).trans (h.fa o), fun o => ((bcell hb).2 _ _ h.b.lt).trans (h.fb o), below_trans h.below hb h.below.size⟩
def i64 (u : Nat) : Int := IntKind.i64.wrap u
theorem i64_small {u : Nat} (h : u < 9223372036854775808) : i64 u = u := by
  unfold i64 IntKind.wrap
  simp [IntKind.signed, IntKind.bits]
  omega
theorem reg_lt {s : List UInt8} {v : Nat} (h : regN s = some v) : v < 4 := by
  unfold regN at h
  split at h
  · split at h
    · split at h
      · split at h
        · injection h with h; omega
        · cases h
      · cases h
    · cases h
  · cases h
theorem reg_len {s : List UInt8} (h : s.length ≠ 2) : regN s = none := by
  match s with
  | [] => rfl
  | [_] => rfl
  | [_, _] => exact absurd rfl h
  | _ :: _ :: _ :: _ => rfl
theorem reg_ne {a b : UInt8} (h : ¬ a = 114) : regN [a, b] = none := by
  unfold regN
  dsimp only
  rw [if_neg h]
theorem reg_two (b : UInt8) : regN [114, b] = match numE [b] with | some u => if u < 4 then some u else none | none => none := by
  unfold regN
  dsimp only
  rw [if_pos rfl]
  cases numE [b] <;> rfl
theorem fb_new (w : World) (x : In) : FB w ((w.alloc (.cells #[.int .u8 x.kd, .int .u8 x.op, .int .i64 x.oa, .int .i64 x.ob, .int .i64 x.fd, .int .i64 x.n, .int .u64 x.m, .int .u64 x.w, .int .i64 x.a, .int .i64 x.b, .int .i64 x.to] 37)).alloc (.cells #[.int .u8 0, .int .u8 0, .int .i64 0, .int .i64 0, .int .i64 0, .int .i64 0, .int .u64 0, .int .u64 0, .int .i64 0, .int .i64 0, .int .i64 0] 37)) x in0 := by
  refine ⟨(In11.new w x 37).later (Below.alloc (Below.refl _ _) (Nat.le_refl _) _), ?_, fun o => ?_, fun o => ?_, (by repeat (first | exact Below.refl _ _ | assumption | (refine below_drewN ?_ _) | (refine Below.drew ?_) | (refine Below.alloc ?_ (by first | omega | (simp; omega) | simp) _) | (refine Below.setCell ?_ (by first | omega | (simp; omega) | simp) _) | (refine below_trans ?_ (by assumption) (by first | omega | (simp; omega) | simp))))⟩
  · have h := In11.new (w.alloc (.cells #[.int .u8 x.kd, .int .u8 x.op, .int .i64 x.oa, .int .i64 x.ob, .int .i64 x.fd, .int .i64 x.n, .int .u64 x.m, .int .u64 x.w, .int .i64 x.a, .int .i64 x.b, .int .i64 x.to] 37)) in0 37
    simp only [World.size_alloc] at h
    exact h
  · simp [go_sem]
  · simp [go_sem]
theorem fb_put1 {w wx : World} {x z : In} (h : FB w wx x z) (v : Int) : FB w (wx.setCell ⟨w.heap.size, 2, none⟩ (.int .i64 v)) (⟨x.kd, x.op, v, x.ob, x.fd, x.n, x.m, x.w, x.a, x.b, x.to⟩ : In) z := by
  obtain ⟨⟨a0, a1, a2, a3, a4, a5, a6, a7, a8, a9, a10⟩, b, fa, fb, hb⟩ := h
  simp only [Nat.zero_add] at a0 a1 a2 a3 a4 a5 a6 a7 a8 a9 a10
  refine ⟨?_, b.keep fun o => by simp [go_sem], fz_put fa _ _, fun o => by simpa [go_sem] using fb o, Below.setCell hb (Nat.le_refl _) _⟩
  constructor <;> simp [go_sem, a0, a1, a2, a3, a4, a5, a6, a7, a8, a9, a10]
theorem fb_put2 {w wx : World} {x z : In} (h : FB w wx x z) (v : Int) : FB w (wx.setCell ⟨w.heap.size, 3, none⟩ (.int .i64 v)) (⟨x.kd, x.op, x.oa, v, x.fd, x.n, x.m, x.w, x.a, x.b, x.to⟩ : In) z := by
  obtain ⟨⟨a0, a1, a2, a3, a4, a5, a6, a7, a8, a9, a10⟩, b, fa, fb, hb⟩ := h
  simp only [Nat.zero_add] at a0 a1 a2 a3 a4 a5 a6 a7 a8 a9 a10
  refine ⟨?_, b.keep fun o => by simp [go_sem], fz_put fa _ _, fun o => by simpa [go_sem] using fb o, Below.setCell hb (Nat.le_refl _) _⟩
  constructor <;> simp [go_sem, a0, a1, a2, a3, a4, a5, a6, a7, a8, a9, a10]
theorem fb_put3 {w wx : World} {x z : In} (h : FB w wx x z) (v : Int) : FB w (wx.setCell ⟨w.heap.size, 4, none⟩ (.int .i64 v)) (⟨x.kd, x.op, x.oa, x.ob, v, x.n, x.m, x.w, x.a, x.b, x.to⟩ : In) z := by
  obtain ⟨⟨a0, a1, a2, a3, a4, a5, a6, a7, a8, a9, a10⟩, b, fa, fb, hb⟩ := h
  simp only [Nat.zero_add] at a0 a1 a2 a3 a4 a5 a6 a7 a8 a9 a10
  refine ⟨?_, b.keep fun o => by simp [go_sem], fz_put fa _ _, fun o => by simpa [go_sem] using fb o, Below.setCell hb (Nat.le_refl _) _⟩
  constructor <;> simp [go_sem, a0, a1, a2, a3, a4, a5, a6, a7, a8, a9, a10]
theorem fb_put4 {w wx : World} {x z : In} (h : FB w wx x z) (v : Int) : FB w (wx.setCell ⟨w.heap.size, 5, none⟩ (.int .i64 v)) (⟨x.kd, x.op, x.oa, x.ob, x.fd, v, x.m, x.w, x.a, x.b, x.to⟩ : In) z := by
  obtain ⟨⟨a0, a1, a2, a3, a4, a5, a6, a7, a8, a9, a10⟩, b, fa, fb, hb⟩ := h
  simp only [Nat.zero_add] at a0 a1 a2 a3 a4 a5 a6 a7 a8 a9 a10
  refine ⟨?_, b.keep fun o => by simp [go_sem], fz_put fa _ _, fun o => by simpa [go_sem] using fb o, Below.setCell hb (Nat.le_refl _) _⟩
  constructor <;> simp [go_sem, a0, a1, a2, a3, a4, a5, a6, a7, a8, a9, a10]
theorem fb_put5 {w wx : World} {x z : In} (h : FB w wx x z) (v : Nat) : FB w (wx.setCell ⟨w.heap.size, 6, none⟩ (.int .u64 v)) (⟨x.kd, x.op, x.oa, x.ob, x.fd, x.n, v, x.w, x.a, x.b, x.to⟩ : In) z := by
  obtain ⟨⟨a0, a1, a2, a3, a4, a5, a6, a7, a8, a9, a10⟩, b, fa, fb, hb⟩ := h
  simp only [Nat.zero_add] at a0 a1 a2 a3 a4 a5 a6 a7 a8 a9 a10
  refine ⟨?_, b.keep fun o => by simp [go_sem], fz_put fa _ _, fun o => by simpa [go_sem] using fb o, Below.setCell hb (Nat.le_refl _) _⟩
  constructor <;> simp [go_sem, a0, a1, a2, a3, a4, a5, a6, a7, a8, a9, a10]
theorem fb_put6 {w wx : World} {x z : In} (h : FB w wx x z) (v : Nat) : FB w (wx.setCell ⟨w.heap.size, 7, none⟩ (.int .u64 v)) (⟨x.kd, x.op, x.oa, x.ob, x.fd, x.n, x.m, v, x.a, x.b, x.to⟩ : In) z := by
  obtain ⟨⟨a0, a1, a2, a3, a4, a5, a6, a7, a8, a9, a10⟩, b, fa, fb, hb⟩ := h
  simp only [Nat.zero_add] at a0 a1 a2 a3 a4 a5 a6 a7 a8 a9 a10
  refine ⟨?_, b.keep fun o => by simp [go_sem], fz_put fa _ _, fun o => by simpa [go_sem] using fb o, Below.setCell hb (Nat.le_refl _) _⟩
  constructor <;> simp [go_sem, a0, a1, a2, a3, a4, a5, a6, a7, a8, a9, a10]
theorem fb_put7 {w wx : World} {x z : In} (h : FB w wx x z) (v : Int) : FB w (wx.setCell ⟨w.heap.size, 8, none⟩ (.int .i64 v)) (⟨x.kd, x.op, x.oa, x.ob, x.fd, x.n, x.m, x.w, v, x.b, x.to⟩ : In) z := by
  obtain ⟨⟨a0, a1, a2, a3, a4, a5, a6, a7, a8, a9, a10⟩, b, fa, fb, hb⟩ := h
  simp only [Nat.zero_add] at a0 a1 a2 a3 a4 a5 a6 a7 a8 a9 a10
  refine ⟨?_, b.keep fun o => by simp [go_sem], fz_put fa _ _, fun o => by simpa [go_sem] using fb o, Below.setCell hb (Nat.le_refl _) _⟩
  constructor <;> simp [go_sem, a0, a1, a2, a3, a4, a5, a6, a7, a8, a9, a10]
theorem fb_put8 {w wx : World} {x z : In} (h : FB w wx x z) (v : Int) : FB w (wx.setCell ⟨w.heap.size, 9, none⟩ (.int .i64 v)) (⟨x.kd, x.op, x.oa, x.ob, x.fd, x.n, x.m, x.w, x.a, v, x.to⟩ : In) z := by
  obtain ⟨⟨a0, a1, a2, a3, a4, a5, a6, a7, a8, a9, a10⟩, b, fa, fb, hb⟩ := h
  simp only [Nat.zero_add] at a0 a1 a2 a3 a4 a5 a6 a7 a8 a9 a10
  refine ⟨?_, b.keep fun o => by simp [go_sem], fz_put fa _ _, fun o => by simpa [go_sem] using fb o, Below.setCell hb (Nat.le_refl _) _⟩
  constructor <;> simp [go_sem, a0, a1, a2, a3, a4, a5, a6, a7, a8, a9, a10]
section
variable {w : World}
set_option maxRecDepth 100000 in
set_option maxHeartbeats 8000000 in
theorem xfill_1 (x : In) (l : List UInt8) (hl : l.length ≤ 65536) : Calls Tryz.prog 43 #[inv x, .int .u8 97, .string (bs l)] w fun e w' => FillR 1 l x e ∧ Below w.heap.size w w' := by
  have HFB : Hid (FB w ((w.alloc (.cells #[.int .u8 x.kd, .int .u8 x.op, .int .i64 x.oa, .int .i64 x.ob, .int .i64 x.fd, .int .i64 x.n, .int .u64 x.m, .int .u64 x.w, .int .i64 x.a, .int .i64 x.b, .int .i64 x.to] 37)).alloc (.cells #[.int .u8 0, .int .u8 0, .int .i64 0, .int .i64 0, .int .i64 0, .int .i64 0, .int .u64 0, .int .u64 0, .int .i64 0, .int .i64 0, .int .i64 0] 37)) x in0) := Lib.hid (fb_new w x)
  have HN2 := Lib.hid fun (W : World) => xnumber_any (w := W) (bs l) (by rw [bs_size]; exact hl)
  have hd2 : (bs l).data.toList = l := bs_data l
  rw [hd2] at HN2
  clear hd2
  unfold inv
  go_enter Tryz.func43, Tryz.ntmps43
  go_upto_region 2 with (fail)
  go_cut [19] from 12 to 19 (fun v wx => ∃ b : Bool, v = .bool b ∧ Hid (FB w wx x in0) ∧ Hid (b = false → regN l = none) ∧ Hid (b = true → ∃ c, l = [114, c]))
  case first =>
    by_cases hn : l.length = 2
    · obtain ⟨a, b, rfl⟩ : ∃ a b, l = [a, b] := by
        match l, hn with
        | [a, b], _ => exact ⟨a, b, rfl⟩
      have hz : (bs [a, b]).size = 2 := by rw [bs_size]; rfl
      have i1 : (0 : Int) < ((bs [a, b]).size : Int) := by omega
      have i0 : 0 < (bs [a, b]).size := by omega
      have e1 : (((bs [a, b]).size : Int) == 2) = true := by rw [hz]; rfl
      have e1n : ((bs [a, b]).size == 2) = true := by rw [hz]; rfl
      have hC : ((bs [a, b])[0]'i0).toNat = a.toNat := rfl
      have hV := @UInt8.toNat_inj a 114
      have hR2 := Lib.hid (@reg_ne a b)
      clear hn
      generalize hq : a.toNat = q at *
      have hV2 : q = 114 ↔ a = 114 := hV
      clear hV hq
      by_cases h114 : q = 114
      · have ha := hV2.1 h114
        subst ha
        subst h114
        have HTW : Hid (∃ c, [(114 : UInt8), b] = [114, c]) := Lib.hid ⟨b, rfl⟩
        clear hV2 hR2 hz
        go_wp2
        go_meet
        exact ⟨true, rfl, Lib.hid (HFB.out.later (by repeat (first | exact Below.refl _ _ | assumption | (refine below_drewN ?_ _) | (refine Below.drew ?_) | (refine Below.alloc ?_ (by first | omega | (simp; omega) | simp) _) | (refine Below.setCell ?_ (by first | omega | (simp; omega) | simp) _) | (refine below_trans ?_ (by assumption) (by first | omega | (simp; omega) | simp))))), Lib.hid (fun h => by cases h), Lib.hid (fun _ => HTW.out)⟩
      · have ha : ¬ a = 114 := fun h => h114 (hV2.2 h)
        have HTW := Lib.hid (hR2.out ha)
        have e2 : ((q : Int) == 114) = false := by simp; omega
        have e2n : (q == 114) = false := by simp; exact h114
        clear hV2 hR2 ha h114 hz
        go_wp2
        go_meet
        exact ⟨false, rfl, Lib.hid (HFB.out.later (by repeat (first | exact Below.refl _ _ | assumption | (refine below_drewN ?_ _) | (refine Below.drew ?_) | (refine Below.alloc ?_ (by first | omega | (simp; omega) | simp) _) | (refine Below.setCell ?_ (by first | omega | (simp; omega) | simp) _) | (refine below_trans ?_ (by assumption) (by first | omega | (simp; omega) | simp))))), Lib.hid (fun _ => HTW.out), Lib.hid (fun h => by cases h)⟩
    · have HTW := Lib.hid (reg_len hn)
      have e1 : (((bs l).size : Int) == 2) = false := by rw [bs_size]; simp; omega
      have e1n : ((bs l).size == 2) = false := by rw [bs_size]; simp; exact hn
      clear hn
      go_wp2
      go_meet
      exact ⟨false, rfl, Lib.hid (HFB.out.later (by repeat (first | exact Below.refl _ _ | assumption | (refine below_drewN ?_ _) | (refine Below.drew ?_) | (refine Below.alloc ?_ (by first | omega | (simp; omega) | simp) _) | (refine Below.setCell ?_ (by first | omega | (simp; omega) | simp) _) | (refine below_trans ?_ (by assumption) (by first | omega | (simp; omega) | simp))))), Lib.hid (fun _ => HTW.out), Lib.hid (fun h => by cases h)⟩
  case rest =>
    clear HFB
    obtain ⟨b, rfl, HFB, HB0, HB1⟩ := hcut
    go_upto_if 19 with (fail)
    go_cut [8, 9] from 20 to 30 (fun rr qq wx => ∃ (u : Nat) (q : Bool), rr = .int .u64 (u : Nat) ∧ qq = .bool q ∧ Hid (FB w wx x in0) ∧ u < 18446744073709551616 ∧ Hid (q = false → regN l = none) ∧ Hid (q = true → regN l = some u))
    case first =>
      have gx := HFB.out.a.lt
      cases b with
      | false =>
        have HR := Lib.hid (HB0.out rfl)
        go_wp2
        go_meet
        exact ⟨0, false, rfl, rfl, Lib.hid (HFB.out.later (by repeat (first | exact Below.refl _ _ | assumption | (refine below_drewN ?_ _) | (refine Below.drew ?_) | (refine Below.alloc ?_ (by first | omega | (simp; omega) | simp) _) | (refine Below.setCell ?_ (by first | omega | (simp; omega) | simp) _) | (refine below_trans ?_ (by assumption) (by first | omega | (simp; omega) | simp))))), by omega, Lib.hid (fun _ => HR.out), Lib.hid (fun h => by cases h)⟩
      | true =>
        obtain ⟨b, rfl⟩ := HB1.out rfl
        have hz : (bs [114, b]).size = 2 := by rw [bs_size]; rfl
        have i1 : (1 : Int) ≤ ((bs [114, b]).size : Int) := by omega
        have HN1 := Lib.hid fun (W : World) => (by
          have := xnumber_any (w := W) ((bs [114, b]).extract 1 (bs [114, b]).size) (by rw [hz]; simp [ByteArray.size_extract]; omega)
          have e : ((bs [114, b]).extract 1 (bs [114, b]).size).data.toList = [b] := by rw [hz]; rfl
          rw [e] at this
          exact this : Calls Tryz.prog 72 #[.string ((bs [114, b]).extract 1 (bs [114, b]).size)] W fun e w' => NumA (numE [b]) e ∧ Below W.heap.size W w')
        have HRT := Lib.hid (reg_two b)
        clear hl HB0 HB1 hz
        go_wp2_with fail
        go_at_call 72
        refine (HN1.out _).mono ?_
        rintro e w2 ⟨⟨u, hu, rfl, hv⟩, hb_w2⟩
        have hs2 := hb_w2.size
        have HV := Lib.hid hv
        have HF2 := Lib.hid (HFB.out.later hb_w2)
        clear hv HN2 HN1
        generalize numE [b] = rn at *
        cases rn with
        | none =>
          have HR : Hid (regN [114, b] = none) := Lib.hid (by rw [HRT.out])
          go_wp2
          go_meet
          exact ⟨u, false, rfl, rfl, Lib.hid (HF2.out.later (by repeat (first | exact Below.refl _ _ | assumption | (refine below_drewN ?_ _) | (refine Below.drew ?_) | (refine Below.alloc ?_ (by first | omega | (simp; omega) | simp) _) | (refine Below.setCell ?_ (by first | omega | (simp; omega) | simp) _) | (refine below_trans ?_ (by assumption) (by first | omega | (simp; omega) | simp))))), hu, Lib.hid (fun _ => HR.out), Lib.hid (fun h => by cases h)⟩
        | some v =>
          obtain rfl := HV.out v rfl
          by_cases h4 : u < 4
          · have d1 : decide ((u : Int) < 4) = true := decide_eq_true (by omega)
            have d1n : decide (u < 4) = true := decide_eq_true h4
            have HR : Hid (regN [114, b] = some u) := Lib.hid (by rw [HRT.out]; exact if_pos h4)
            clear HV HRT
            go_wp2
            go_meet
            exact ⟨u, true, rfl, rfl, Lib.hid (HF2.out.later (by repeat (first | exact Below.refl _ _ | assumption | (refine below_drewN ?_ _) | (refine Below.drew ?_) | (refine Below.alloc ?_ (by first | omega | (simp; omega) | simp) _) | (refine Below.setCell ?_ (by first | omega | (simp; omega) | simp) _) | (refine below_trans ?_ (by assumption) (by first | omega | (simp; omega) | simp))))), hu, Lib.hid (fun h => by cases h), Lib.hid (fun _ => HR.out)⟩
          · have d1 : decide ((u : Int) < 4) = false := decide_eq_false (by omega)
            have d1n : decide (u < 4) = false := decide_eq_false h4
            have HR : Hid (regN [114, b] = none) := Lib.hid (by rw [HRT.out]; exact if_neg h4)
            clear HV HRT
            go_wp2
            go_meet
            exact ⟨u, false, rfl, rfl, Lib.hid (HF2.out.later (by repeat (first | exact Below.refl _ _ | assumption | (refine below_drewN ?_ _) | (refine Below.drew ?_) | (refine Below.alloc ?_ (by first | omega | (simp; omega) | simp) _) | (refine Below.setCell ?_ (by first | omega | (simp; omega) | simp) _) | (refine below_trans ?_ (by assumption) (by first | omega | (simp; omega) | simp))))), hu, Lib.hid (fun _ => HR.out), Lib.hid (fun h => by cases h)⟩
    case rest =>
      clear HFB HB0 HB1
      obtain ⟨r, q, rfl, rfl, HFB, hr64, HQ0, HQ1⟩ := hcut
      have gx := HFB.out.a.lt
      go_wp2_with fail
      go_at_call 72
      refine (HN2.out _).mono ?_
      rintro e w2 ⟨⟨u, hu, rfl, hv⟩, hb_w2⟩
      have hs2 := hb_w2.size
      have HV := Lib.hid hv
      have HF2 := HFB.out.later hb_w2
      have ga := HF2.a.lt
      have gb := HF2.b.lt
      have HNS : Hid (∀ o, isR o = false → fillO o l x = match numE l with | none => none | some u => if (u : Int) ≤ mostO o 0 then some (putO o u x) else none) := Lib.hid (fun o h => fill_num h l x)
      have HRS : Hid (∀ o, isR o = true → fillO o l x = (regN l).map fun u => putO o u x) := Lib.hid (fun o h => fill_reg h l x)
      clear hv HN2 HFB hl
      obtain ⟨c0, c1, c2, c3, c4, c5, c6, c7, c8, c9, c10⟩ := id HF2.a
      obtain ⟨z0, z1, z2, z3, z4, z5, z6, z7, z8, z9, z10⟩ := id HF2.b
      simp only [Nat.zero_add] at c0 c1 c2 c3 c4 c5 c6 c7 c8 c9 c10 z0 z1 z2 z3 z4 z5 z6 z7 z8 z9 z10
      have fa0 := HF2.fa 0
      have fb0 := HF2.fb 0
      have fa1 := HF2.fa 1
      have fb1 := HF2.fb 1
      have fa2 := HF2.fa 2
      have fb2 := HF2.fb 2
      have fa3 := HF2.fa 3
      have fb3 := HF2.fb 3
      have fa4 := HF2.fa 4
      have fb4 := HF2.fb 4
      have fa5 := HF2.fa 5
      have fb5 := HF2.fb 5
      have fa6 := HF2.fa 6
      have fb6 := HF2.fb 6
      have fa7 := HF2.fa 7
      have fb7 := HF2.fb 7
      have fa8 := HF2.fa 8
      have fb8 := HF2.fb 8
      have fa9 := HF2.fa 9
      have fb9 := HF2.fb 9
      have fa10 := HF2.fa 10
      have fb10 := HF2.fb 10
      have HF := Lib.hid HF2
      have HP := Lib.hid (fb_put1 HF2 (i64 r))
      clear HF2
      have hi : IntKind.i64.wrap (r : Int) = i64 r := rfl
      go_wp2
      refine bodyPost_ret (res_in2 rfl rfl (In11.set11 (⟨x.kd, x.op, i64 r, x.ob, x.fd, x.n, x.m, x.w, x.a, x.b, x.to⟩ : In) HP.out.b)) rfl ⟨⟨(⟨x.kd, x.op, i64 r, x.ob, x.fd, x.n, x.m, x.w, x.a, x.b, x.to⟩ : In), q, rfl, fun h => ?_, fun h => ?_⟩, below_set11 (⟨x.kd, x.op, i64 r, x.ob, x.fd, x.n, x.m, x.w, x.a, x.b, x.to⟩ : In) HP.out.below (by omega)⟩
      · rw [HRS.out 1 rfl, HQ1.out h]
        have h4 := reg_lt (HQ1.out h)
        rw [i64_small (show r < 9223372036854775808 by omega)]
        rfl
      · rw [HRS.out 1 rfl, HQ0.out h]; rfl
set_option maxRecDepth 100000 in
set_option maxHeartbeats 8000000 in
theorem xfill_2 (x : In) (l : List UInt8) (hl : l.length ≤ 65536) : Calls Tryz.prog 43 #[inv x, .int .u8 98, .string (bs l)] w fun e w' => FillR 2 l x e ∧ Below w.heap.size w w' := by
  have HFB : Hid (FB w ((w.alloc (.cells #[.int .u8 x.kd, .int .u8 x.op, .int .i64 x.oa, .int .i64 x.ob, .int .i64 x.fd, .int .i64 x.n, .int .u64 x.m, .int .u64 x.w, .int .i64 x.a, .int .i64 x.b, .int .i64 x.to] 37)).alloc (.cells #[.int .u8 0, .int .u8 0, .int .i64 0, .int .i64 0, .int .i64 0, .int .i64 0, .int .u64 0, .int .u64 0, .int .i64 0, .int .i64 0, .int .i64 0] 37)) x in0) := Lib.hid (fb_new w x)
  have HN2 := Lib.hid fun (W : World) => xnumber_any (w := W) (bs l) (by rw [bs_size]; exact hl)
  have hd2 : (bs l).data.toList = l := bs_data l
  rw [hd2] at HN2
  clear hd2
  unfold inv
  go_enter Tryz.func43, Tryz.ntmps43
  go_upto_region 2 with (fail)
  go_cut [19] from 12 to 19 (fun v wx => ∃ b : Bool, v = .bool b ∧ Hid (FB w wx x in0) ∧ Hid (b = false → regN l = none) ∧ Hid (b = true → ∃ c, l = [114, c]))
  case first =>
    by_cases hn : l.length = 2
    · obtain ⟨a, b, rfl⟩ : ∃ a b, l = [a, b] := by
        match l, hn with
        | [a, b], _ => exact ⟨a, b, rfl⟩
      have hz : (bs [a, b]).size = 2 := by rw [bs_size]; rfl
      have i1 : (0 : Int) < ((bs [a, b]).size : Int) := by omega
      have i0 : 0 < (bs [a, b]).size := by omega
      have e1 : (((bs [a, b]).size : Int) == 2) = true := by rw [hz]; rfl
      have e1n : ((bs [a, b]).size == 2) = true := by rw [hz]; rfl
      have hC : ((bs [a, b])[0]'i0).toNat = a.toNat := rfl
      have hV := @UInt8.toNat_inj a 114
      have hR2 := Lib.hid (@reg_ne a b)
      clear hn
      generalize hq : a.toNat = q at *
      have hV2 : q = 114 ↔ a = 114 := hV
      clear hV hq
      by_cases h114 : q = 114
      · have ha := hV2.1 h114
        subst ha
        subst h114
        have HTW : Hid (∃ c, [(114 : UInt8), b] = [114, c]) := Lib.hid ⟨b, rfl⟩
        clear hV2 hR2 hz
        go_wp2
        go_meet
        exact ⟨true, rfl, Lib.hid (HFB.out.later (by repeat (first | exact Below.refl _ _ | assumption | (refine below_drewN ?_ _) | (refine Below.drew ?_) | (refine Below.alloc ?_ (by first | omega | (simp; omega) | simp) _) | (refine Below.setCell ?_ (by first | omega | (simp; omega) | simp) _) | (refine below_trans ?_ (by assumption) (by first | omega | (simp; omega) | simp))))), Lib.hid (fun h => by cases h), Lib.hid (fun _ => HTW.out)⟩
      · have ha : ¬ a = 114 := fun h => h114 (hV2.2 h)
        have HTW := Lib.hid (hR2.out ha)
        have e2 : ((q : Int) == 114) = false := by simp; omega
        have e2n : (q == 114) = false := by simp; exact h114
        clear hV2 hR2 ha h114 hz
        go_wp2
        go_meet
        exact ⟨false, rfl, Lib.hid (HFB.out.later (by repeat (first | exact Below.refl _ _ | assumption | (refine below_drewN ?_ _) | (refine Below.drew ?_) | (refine Below.alloc ?_ (by first | omega | (simp; omega) | simp) _) | (refine Below.setCell ?_ (by first | omega | (simp; omega) | simp) _) | (refine below_trans ?_ (by assumption) (by first | omega | (simp; omega) | simp))))), Lib.hid (fun _ => HTW.out), Lib.hid (fun h => by cases h)⟩
    · have HTW := Lib.hid (reg_len hn)
      have e1 : (((bs l).size : Int) == 2) = false := by rw [bs_size]; simp; omega
      have e1n : ((bs l).size == 2) = false := by rw [bs_size]; simp; exact hn
      clear hn
      go_wp2
      go_meet
      exact ⟨false, rfl, Lib.hid (HFB.out.later (by repeat (first | exact Below.refl _ _ | assumption | (refine below_drewN ?_ _) | (refine Below.drew ?_) | (refine Below.alloc ?_ (by first | omega | (simp; omega) | simp) _) | (refine Below.setCell ?_ (by first | omega | (simp; omega) | simp) _) | (refine below_trans ?_ (by assumption) (by first | omega | (simp; omega) | simp))))), Lib.hid (fun _ => HTW.out), Lib.hid (fun h => by cases h)⟩
  case rest =>
    clear HFB
    obtain ⟨b, rfl, HFB, HB0, HB1⟩ := hcut
    go_upto_if 19 with (fail)
    go_cut [8, 9] from 20 to 30 (fun rr qq wx => ∃ (u : Nat) (q : Bool), rr = .int .u64 (u : Nat) ∧ qq = .bool q ∧ Hid (FB w wx x in0) ∧ u < 18446744073709551616 ∧ Hid (q = false → regN l = none) ∧ Hid (q = true → regN l = some u))
    case first =>
      have gx := HFB.out.a.lt
      cases b with
      | false =>
        have HR := Lib.hid (HB0.out rfl)
        go_wp2
        go_meet
        exact ⟨0, false, rfl, rfl, Lib.hid (HFB.out.later (by repeat (first | exact Below.refl _ _ | assumption | (refine below_drewN ?_ _) | (refine Below.drew ?_) | (refine Below.alloc ?_ (by first | omega | (simp; omega) | simp) _) | (refine Below.setCell ?_ (by first | omega | (simp; omega) | simp) _) | (refine below_trans ?_ (by assumption) (by first | omega | (simp; omega) | simp))))), by omega, Lib.hid (fun _ => HR.out), Lib.hid (fun h => by cases h)⟩
      | true =>
        obtain ⟨b, rfl⟩ := HB1.out rfl
        have hz : (bs [114, b]).size = 2 := by rw [bs_size]; rfl
        have i1 : (1 : Int) ≤ ((bs [114, b]).size : Int) := by omega
        have HN1 := Lib.hid fun (W : World) => (by
          have := xnumber_any (w := W) ((bs [114, b]).extract 1 (bs [114, b]).size) (by rw [hz]; simp [ByteArray.size_extract]; omega)
          have e : ((bs [114, b]).extract 1 (bs [114, b]).size).data.toList = [b] := by rw [hz]; rfl
          rw [e] at this
          exact this : Calls Tryz.prog 72 #[.string ((bs [114, b]).extract 1 (bs [114, b]).size)] W fun e w' => NumA (numE [b]) e ∧ Below W.heap.size W w')
        have HRT := Lib.hid (reg_two b)
        clear hl HB0 HB1 hz
        go_wp2_with fail
        go_at_call 72
        refine (HN1.out _).mono ?_
        rintro e w2 ⟨⟨u, hu, rfl, hv⟩, hb_w2⟩
        have hs2 := hb_w2.size
        have HV := Lib.hid hv
        have HF2 := Lib.hid (HFB.out.later hb_w2)
        clear hv HN2 HN1
        generalize numE [b] = rn at *
        cases rn with
        | none =>
          have HR : Hid (regN [114, b] = none) := Lib.hid (by rw [HRT.out])
          go_wp2
          go_meet
          exact ⟨u, false, rfl, rfl, Lib.hid (HF2.out.later (by repeat (first | exact Below.refl _ _ | assumption | (refine below_drewN ?_ _) | (refine Below.drew ?_) | (refine Below.alloc ?_ (by first | omega | (simp; omega) | simp) _) | (refine Below.setCell ?_ (by first | omega | (simp; omega) | simp) _) | (refine below_trans ?_ (by assumption) (by first | omega | (simp; omega) | simp))))), hu, Lib.hid (fun _ => HR.out), Lib.hid (fun h => by cases h)⟩
        | some v =>
          obtain rfl := HV.out v rfl
          by_cases h4 : u < 4
          · have d1 : decide ((u : Int) < 4) = true := decide_eq_true (by omega)
            have d1n : decide (u < 4) = true := decide_eq_true h4
            have HR : Hid (regN [114, b] = some u) := Lib.hid (by rw [HRT.out]; exact if_pos h4)
            clear HV HRT
            go_wp2
            go_meet
            exact ⟨u, true, rfl, rfl, Lib.hid (HF2.out.later (by repeat (first | exact Below.refl _ _ | assumption | (refine below_drewN ?_ _) | (refine Below.drew ?_) | (refine Below.alloc ?_ (by first | omega | (simp; omega) | simp) _) | (refine Below.setCell ?_ (by first | omega | (simp; omega) | simp) _) | (refine below_trans ?_ (by assumption) (by first | omega | (simp; omega) | simp))))), hu, Lib.hid (fun h => by cases h), Lib.hid (fun _ => HR.out)⟩
          · have d1 : decide ((u : Int) < 4) = false := decide_eq_false (by omega)
            have d1n : decide (u < 4) = false := decide_eq_false h4
            have HR : Hid (regN [114, b] = none) := Lib.hid (by rw [HRT.out]; exact if_neg h4)
            clear HV HRT
            go_wp2
            go_meet
            exact ⟨u, false, rfl, rfl, Lib.hid (HF2.out.later (by repeat (first | exact Below.refl _ _ | assumption | (refine below_drewN ?_ _) | (refine Below.drew ?_) | (refine Below.alloc ?_ (by first | omega | (simp; omega) | simp) _) | (refine Below.setCell ?_ (by first | omega | (simp; omega) | simp) _) | (refine below_trans ?_ (by assumption) (by first | omega | (simp; omega) | simp))))), hu, Lib.hid (fun _ => HR.out), Lib.hid (fun h => by cases h)⟩
    case rest =>
      clear HFB HB0 HB1
      obtain ⟨r, q, rfl, rfl, HFB, hr64, HQ0, HQ1⟩ := hcut
      have gx := HFB.out.a.lt
      go_wp2_with fail
      go_at_call 72
      refine (HN2.out _).mono ?_
      rintro e w2 ⟨⟨u, hu, rfl, hv⟩, hb_w2⟩
      have hs2 := hb_w2.size
      have HV := Lib.hid hv
      have HF2 := HFB.out.later hb_w2
      have ga := HF2.a.lt
      have gb := HF2.b.lt
      have HNS : Hid (∀ o, isR o = false → fillO o l x = match numE l with | none => none | some u => if (u : Int) ≤ mostO o 0 then some (putO o u x) else none) := Lib.hid (fun o h => fill_num h l x)
      have HRS : Hid (∀ o, isR o = true → fillO o l x = (regN l).map fun u => putO o u x) := Lib.hid (fun o h => fill_reg h l x)
      clear hv HN2 HFB hl
      obtain ⟨c0, c1, c2, c3, c4, c5, c6, c7, c8, c9, c10⟩ := id HF2.a
      obtain ⟨z0, z1, z2, z3, z4, z5, z6, z7, z8, z9, z10⟩ := id HF2.b
      simp only [Nat.zero_add] at c0 c1 c2 c3 c4 c5 c6 c7 c8 c9 c10 z0 z1 z2 z3 z4 z5 z6 z7 z8 z9 z10
      have fa0 := HF2.fa 0
      have fb0 := HF2.fb 0
      have fa1 := HF2.fa 1
      have fb1 := HF2.fb 1
      have fa2 := HF2.fa 2
      have fb2 := HF2.fb 2
      have fa3 := HF2.fa 3
      have fb3 := HF2.fb 3
      have fa4 := HF2.fa 4
      have fb4 := HF2.fb 4
      have fa5 := HF2.fa 5
      have fb5 := HF2.fb 5
      have fa6 := HF2.fa 6
      have fb6 := HF2.fb 6
      have fa7 := HF2.fa 7
      have fb7 := HF2.fb 7
      have fa8 := HF2.fa 8
      have fb8 := HF2.fb 8
      have fa9 := HF2.fa 9
      have fb9 := HF2.fb 9
      have fa10 := HF2.fa 10
      have fb10 := HF2.fb 10
      have HF := Lib.hid HF2
      have HP := Lib.hid (fb_put2 HF2 (i64 r))
      clear HF2
      have hi : IntKind.i64.wrap (r : Int) = i64 r := rfl
      go_wp2
      refine bodyPost_ret (res_in2 rfl rfl (In11.set11 (⟨x.kd, x.op, x.oa, i64 r, x.fd, x.n, x.m, x.w, x.a, x.b, x.to⟩ : In) HP.out.b)) rfl ⟨⟨(⟨x.kd, x.op, x.oa, i64 r, x.fd, x.n, x.m, x.w, x.a, x.b, x.to⟩ : In), q, rfl, fun h => ?_, fun h => ?_⟩, below_set11 (⟨x.kd, x.op, x.oa, i64 r, x.fd, x.n, x.m, x.w, x.a, x.b, x.to⟩ : In) HP.out.below (by omega)⟩
      · rw [HRS.out 2 rfl, HQ1.out h]
        have h4 := reg_lt (HQ1.out h)
        rw [i64_small (show r < 9223372036854775808 by omega)]
        rfl
      · rw [HRS.out 2 rfl, HQ0.out h]; rfl
set_option maxRecDepth 100000 in
set_option maxHeartbeats 8000000 in
theorem xfill_3 (x : In) (l : List UInt8) (hl : l.length ≤ 65536) : Calls Tryz.prog 43 #[inv x, .int .u8 102, .string (bs l)] w fun e w' => FillR 3 l x e ∧ Below w.heap.size w w' := by
  have HFB : Hid (FB w ((w.alloc (.cells #[.int .u8 x.kd, .int .u8 x.op, .int .i64 x.oa, .int .i64 x.ob, .int .i64 x.fd, .int .i64 x.n, .int .u64 x.m, .int .u64 x.w, .int .i64 x.a, .int .i64 x.b, .int .i64 x.to] 37)).alloc (.cells #[.int .u8 0, .int .u8 0, .int .i64 0, .int .i64 0, .int .i64 0, .int .i64 0, .int .u64 0, .int .u64 0, .int .i64 0, .int .i64 0, .int .i64 0] 37)) x in0) := Lib.hid (fb_new w x)
  have HN2 := Lib.hid fun (W : World) => xnumber_any (w := W) (bs l) (by rw [bs_size]; exact hl)
  have hd2 : (bs l).data.toList = l := bs_data l
  rw [hd2] at HN2
  clear hd2
  unfold inv
  go_enter Tryz.func43, Tryz.ntmps43
  go_upto_region 2 with (fail)
  go_cut [19] from 12 to 19 (fun v wx => ∃ b : Bool, v = .bool b ∧ Hid (FB w wx x in0) ∧ Hid (b = false → regN l = none) ∧ Hid (b = true → ∃ c, l = [114, c]))
  case first =>
    by_cases hn : l.length = 2
    · obtain ⟨a, b, rfl⟩ : ∃ a b, l = [a, b] := by
        match l, hn with
        | [a, b], _ => exact ⟨a, b, rfl⟩
      have hz : (bs [a, b]).size = 2 := by rw [bs_size]; rfl
      have i1 : (0 : Int) < ((bs [a, b]).size : Int) := by omega
      have i0 : 0 < (bs [a, b]).size := by omega
      have e1 : (((bs [a, b]).size : Int) == 2) = true := by rw [hz]; rfl
      have e1n : ((bs [a, b]).size == 2) = true := by rw [hz]; rfl
      have hC : ((bs [a, b])[0]'i0).toNat = a.toNat := rfl
      have hV := @UInt8.toNat_inj a 114
      have hR2 := Lib.hid (@reg_ne a b)
      clear hn
      generalize hq : a.toNat = q at *
      have hV2 : q = 114 ↔ a = 114 := hV
      clear hV hq
      by_cases h114 : q = 114
      · have ha := hV2.1 h114
        subst ha
        subst h114
        have HTW : Hid (∃ c, [(114 : UInt8), b] = [114, c]) := Lib.hid ⟨b, rfl⟩
        clear hV2 hR2 hz
        go_wp2
        go_meet
        exact ⟨true, rfl, Lib.hid (HFB.out.later (by repeat (first | exact Below.refl _ _ | assumption | (refine below_drewN ?_ _) | (refine Below.drew ?_) | (refine Below.alloc ?_ (by first | omega | (simp; omega) | simp) _) | (refine Below.setCell ?_ (by first | omega | (simp; omega) | simp) _) | (refine below_trans ?_ (by assumption) (by first | omega | (simp; omega) | simp))))), Lib.hid (fun h => by cases h), Lib.hid (fun _ => HTW.out)⟩
      · have ha : ¬ a = 114 := fun h => h114 (hV2.2 h)
        have HTW := Lib.hid (hR2.out ha)
        have e2 : ((q : Int) == 114) = false := by simp; omega
        have e2n : (q == 114) = false := by simp; exact h114
        clear hV2 hR2 ha h114 hz
        go_wp2
        go_meet
        exact ⟨false, rfl, Lib.hid (HFB.out.later (by repeat (first | exact Below.refl _ _ | assumption | (refine below_drewN ?_ _) | (refine Below.drew ?_) | (refine Below.alloc ?_ (by first | omega | (simp; omega) | simp) _) | (refine Below.setCell ?_ (by first | omega | (simp; omega) | simp) _) | (refine below_trans ?_ (by assumption) (by first | omega | (simp; omega) | simp))))), Lib.hid (fun _ => HTW.out), Lib.hid (fun h => by cases h)⟩
    · have HTW := Lib.hid (reg_len hn)
      have e1 : (((bs l).size : Int) == 2) = false := by rw [bs_size]; simp; omega
      have e1n : ((bs l).size == 2) = false := by rw [bs_size]; simp; exact hn
      clear hn
      go_wp2
      go_meet
      exact ⟨false, rfl, Lib.hid (HFB.out.later (by repeat (first | exact Below.refl _ _ | assumption | (refine below_drewN ?_ _) | (refine Below.drew ?_) | (refine Below.alloc ?_ (by first | omega | (simp; omega) | simp) _) | (refine Below.setCell ?_ (by first | omega | (simp; omega) | simp) _) | (refine below_trans ?_ (by assumption) (by first | omega | (simp; omega) | simp))))), Lib.hid (fun _ => HTW.out), Lib.hid (fun h => by cases h)⟩
  case rest =>
    clear HFB
    obtain ⟨b, rfl, HFB, HB0, HB1⟩ := hcut
    go_upto_if 19 with (fail)
    go_cut [8, 9] from 20 to 30 (fun rr qq wx => ∃ (u : Nat) (q : Bool), rr = .int .u64 (u : Nat) ∧ qq = .bool q ∧ Hid (FB w wx x in0) ∧ u < 18446744073709551616 ∧ Hid (q = false → regN l = none) ∧ Hid (q = true → regN l = some u))
    case first =>
      have gx := HFB.out.a.lt
      cases b with
      | false =>
        have HR := Lib.hid (HB0.out rfl)
        go_wp2
        go_meet
        exact ⟨0, false, rfl, rfl, Lib.hid (HFB.out.later (by repeat (first | exact Below.refl _ _ | assumption | (refine below_drewN ?_ _) | (refine Below.drew ?_) | (refine Below.alloc ?_ (by first | omega | (simp; omega) | simp) _) | (refine Below.setCell ?_ (by first | omega | (simp; omega) | simp) _) | (refine below_trans ?_ (by assumption) (by first | omega | (simp; omega) | simp))))), by omega, Lib.hid (fun _ => HR.out), Lib.hid (fun h => by cases h)⟩
      | true =>
        obtain ⟨b, rfl⟩ := HB1.out rfl
        have hz : (bs [114, b]).size = 2 := by rw [bs_size]; rfl
        have i1 : (1 : Int) ≤ ((bs [114, b]).size : Int) := by omega
        have HN1 := Lib.hid fun (W : World) => (by
          have := xnumber_any (w := W) ((bs [114, b]).extract 1 (bs [114, b]).size) (by rw [hz]; simp [ByteArray.size_extract]; omega)
          have e : ((bs [114, b]).extract 1 (bs [114, b]).size).data.toList = [b] := by rw [hz]; rfl
          rw [e] at this
          exact this : Calls Tryz.prog 72 #[.string ((bs [114, b]).extract 1 (bs [114, b]).size)] W fun e w' => NumA (numE [b]) e ∧ Below W.heap.size W w')
        have HRT := Lib.hid (reg_two b)
        clear hl HB0 HB1 hz
        go_wp2_with fail
        go_at_call 72
        refine (HN1.out _).mono ?_
        rintro e w2 ⟨⟨u, hu, rfl, hv⟩, hb_w2⟩
        have hs2 := hb_w2.size
        have HV := Lib.hid hv
        have HF2 := Lib.hid (HFB.out.later hb_w2)
        clear hv HN2 HN1
        generalize numE [b] = rn at *
        cases rn with
        | none =>
          have HR : Hid (regN [114, b] = none) := Lib.hid (by rw [HRT.out])
          go_wp2
          go_meet
          exact ⟨u, false, rfl, rfl, Lib.hid (HF2.out.later (by repeat (first | exact Below.refl _ _ | assumption | (refine below_drewN ?_ _) | (refine Below.drew ?_) | (refine Below.alloc ?_ (by first | omega | (simp; omega) | simp) _) | (refine Below.setCell ?_ (by first | omega | (simp; omega) | simp) _) | (refine below_trans ?_ (by assumption) (by first | omega | (simp; omega) | simp))))), hu, Lib.hid (fun _ => HR.out), Lib.hid (fun h => by cases h)⟩
        | some v =>
          obtain rfl := HV.out v rfl
          by_cases h4 : u < 4
          · have d1 : decide ((u : Int) < 4) = true := decide_eq_true (by omega)
            have d1n : decide (u < 4) = true := decide_eq_true h4
            have HR : Hid (regN [114, b] = some u) := Lib.hid (by rw [HRT.out]; exact if_pos h4)
            clear HV HRT
            go_wp2
            go_meet
            exact ⟨u, true, rfl, rfl, Lib.hid (HF2.out.later (by repeat (first | exact Below.refl _ _ | assumption | (refine below_drewN ?_ _) | (refine Below.drew ?_) | (refine Below.alloc ?_ (by first | omega | (simp; omega) | simp) _) | (refine Below.setCell ?_ (by first | omega | (simp; omega) | simp) _) | (refine below_trans ?_ (by assumption) (by first | omega | (simp; omega) | simp))))), hu, Lib.hid (fun h => by cases h), Lib.hid (fun _ => HR.out)⟩
          · have d1 : decide ((u : Int) < 4) = false := decide_eq_false (by omega)
            have d1n : decide (u < 4) = false := decide_eq_false h4
            have HR : Hid (regN [114, b] = none) := Lib.hid (by rw [HRT.out]; exact if_neg h4)
            clear HV HRT
            go_wp2
            go_meet
            exact ⟨u, false, rfl, rfl, Lib.hid (HF2.out.later (by repeat (first | exact Below.refl _ _ | assumption | (refine below_drewN ?_ _) | (refine Below.drew ?_) | (refine Below.alloc ?_ (by first | omega | (simp; omega) | simp) _) | (refine Below.setCell ?_ (by first | omega | (simp; omega) | simp) _) | (refine below_trans ?_ (by assumption) (by first | omega | (simp; omega) | simp))))), hu, Lib.hid (fun _ => HR.out), Lib.hid (fun h => by cases h)⟩
    case rest =>
      clear HFB HB0 HB1
      obtain ⟨r, q, rfl, rfl, HFB, hr64, HQ0, HQ1⟩ := hcut
      have gx := HFB.out.a.lt
      go_wp2_with fail
      go_at_call 72
      refine (HN2.out _).mono ?_
      rintro e w2 ⟨⟨u, hu, rfl, hv⟩, hb_w2⟩
      have hs2 := hb_w2.size
      have HV := Lib.hid hv
      have HF2 := HFB.out.later hb_w2
      have ga := HF2.a.lt
      have gb := HF2.b.lt
      have HNS : Hid (∀ o, isR o = false → fillO o l x = match numE l with | none => none | some u => if (u : Int) ≤ mostO o 0 then some (putO o u x) else none) := Lib.hid (fun o h => fill_num h l x)
      have HRS : Hid (∀ o, isR o = true → fillO o l x = (regN l).map fun u => putO o u x) := Lib.hid (fun o h => fill_reg h l x)
      clear hv HN2 HFB hl
      obtain ⟨c0, c1, c2, c3, c4, c5, c6, c7, c8, c9, c10⟩ := id HF2.a
      obtain ⟨z0, z1, z2, z3, z4, z5, z6, z7, z8, z9, z10⟩ := id HF2.b
      simp only [Nat.zero_add] at c0 c1 c2 c3 c4 c5 c6 c7 c8 c9 c10 z0 z1 z2 z3 z4 z5 z6 z7 z8 z9 z10
      have fa0 := HF2.fa 0
      have fb0 := HF2.fb 0
      have fa1 := HF2.fa 1
      have fb1 := HF2.fb 1
      have fa2 := HF2.fa 2
      have fb2 := HF2.fb 2
      have fa3 := HF2.fa 3
      have fb3 := HF2.fb 3
      have fa4 := HF2.fa 4
      have fb4 := HF2.fb 4
      have fa5 := HF2.fa 5
      have fb5 := HF2.fb 5
      have fa6 := HF2.fa 6
      have fb6 := HF2.fb 6
      have fa7 := HF2.fa 7
      have fb7 := HF2.fb 7
      have fa8 := HF2.fa 8
      have fb8 := HF2.fb 8
      have fa9 := HF2.fa 9
      have fb9 := HF2.fb 9
      have fa10 := HF2.fa 10
      have fb10 := HF2.fb 10
      by_cases hbig : 48 ≤ u
      · have d1 : decide ((48 : Int) ≤ (u : Int)) = true := decide_eq_true (by omega)
        have d1n : decide (48 ≤ u) = true := decide_eq_true hbig
        have HF := Lib.hid HF2
        clear HF2
        go_wp2
        refine bodyPost_ret (res_in2 rfl rfl (In11.set11 x HF.out.b)) rfl ⟨⟨x, false, rfl, fun h => by (cases h), fun _ => ?_⟩, below_set11 x HF.out.below (by omega)⟩
        rw [HNS.out 3 rfl]
        cases hn : numE l with
        | none => rfl
        | some v =>
          obtain rfl := HV.out v hn
          dsimp only
          rw [if_neg (by simp only [mostO]; omega)]
      · have d1 : decide ((48 : Int) ≤ (u : Int)) = false := decide_eq_false (by omega)
        have d1n : decide (48 ≤ u) = false := decide_eq_false hbig
        have HP := Lib.hid (fb_put3 HF2 (i64 u))
        clear HF2
        have hi : IntKind.i64.wrap (u : Int) = i64 u := rfl
        go_wp2
        refine bodyPost_ret (res_in2 rfl rfl (In11.set11 (⟨x.kd, x.op, x.oa, x.ob, i64 u, x.n, x.m, x.w, x.a, x.b, x.to⟩ : In) HP.out.b)) rfl ⟨⟨(⟨x.kd, x.op, x.oa, x.ob, i64 u, x.n, x.m, x.w, x.a, x.b, x.to⟩ : In), (numE l).isSome, rfl, fun h => ?_, fun h => ?_⟩, below_set11 (⟨x.kd, x.op, x.oa, x.ob, i64 u, x.n, x.m, x.w, x.a, x.b, x.to⟩ : In) HP.out.below (by omega)⟩
        · rw [HNS.out 3 rfl]
          cases hn : numE l with
          | none => rw [hn] at h; cases h
          | some v =>
            obtain rfl := HV.out v hn
            dsimp only
            rw [if_pos (by simp only [mostO]; omega)]
            rw [i64_small (by omega)]
            rfl
        · rw [HNS.out 3 rfl]
          cases hn : numE l with
          | none => rfl
          | some v => rw [hn] at h; cases h
set_option maxRecDepth 100000 in
set_option maxHeartbeats 8000000 in
theorem xfill_4 (x : In) (l : List UInt8) (hl : l.length ≤ 65536) : Calls Tryz.prog 43 #[inv x, .int .u8 110, .string (bs l)] w fun e w' => FillR 4 l x e ∧ Below w.heap.size w w' := by
  have HFB : Hid (FB w ((w.alloc (.cells #[.int .u8 x.kd, .int .u8 x.op, .int .i64 x.oa, .int .i64 x.ob, .int .i64 x.fd, .int .i64 x.n, .int .u64 x.m, .int .u64 x.w, .int .i64 x.a, .int .i64 x.b, .int .i64 x.to] 37)).alloc (.cells #[.int .u8 0, .int .u8 0, .int .i64 0, .int .i64 0, .int .i64 0, .int .i64 0, .int .u64 0, .int .u64 0, .int .i64 0, .int .i64 0, .int .i64 0] 37)) x in0) := Lib.hid (fb_new w x)
  have HN2 := Lib.hid fun (W : World) => xnumber_any (w := W) (bs l) (by rw [bs_size]; exact hl)
  have hd2 : (bs l).data.toList = l := bs_data l
  rw [hd2] at HN2
  clear hd2
  unfold inv
  go_enter Tryz.func43, Tryz.ntmps43
  go_upto_region 2 with (fail)
  go_cut [19] from 12 to 19 (fun v wx => ∃ b : Bool, v = .bool b ∧ Hid (FB w wx x in0) ∧ Hid (b = false → regN l = none) ∧ Hid (b = true → ∃ c, l = [114, c]))
  case first =>
    by_cases hn : l.length = 2
    · obtain ⟨a, b, rfl⟩ : ∃ a b, l = [a, b] := by
        match l, hn with
        | [a, b], _ => exact ⟨a, b, rfl⟩
      have hz : (bs [a, b]).size = 2 := by rw [bs_size]; rfl
      have i1 : (0 : Int) < ((bs [a, b]).size : Int) := by omega
      have i0 : 0 < (bs [a, b]).size := by omega
      have e1 : (((bs [a, b]).size : Int) == 2) = true := by rw [hz]; rfl
      have e1n : ((bs [a, b]).size == 2) = true := by rw [hz]; rfl
      have hC : ((bs [a, b])[0]'i0).toNat = a.toNat := rfl
      have hV := @UInt8.toNat_inj a 114
      have hR2 := Lib.hid (@reg_ne a b)
      clear hn
      generalize hq : a.toNat = q at *
      have hV2 : q = 114 ↔ a = 114 := hV
      clear hV hq
      by_cases h114 : q = 114
      · have ha := hV2.1 h114
        subst ha
        subst h114
        have HTW : Hid (∃ c, [(114 : UInt8), b] = [114, c]) := Lib.hid ⟨b, rfl⟩
        clear hV2 hR2 hz
        go_wp2
        go_meet
        exact ⟨true, rfl, Lib.hid (HFB.out.later (by repeat (first | exact Below.refl _ _ | assumption | (refine below_drewN ?_ _) | (refine Below.drew ?_) | (refine Below.alloc ?_ (by first | omega | (simp; omega) | simp) _) | (refine Below.setCell ?_ (by first | omega | (simp; omega) | simp) _) | (refine below_trans ?_ (by assumption) (by first | omega | (simp; omega) | simp))))), Lib.hid (fun h => by cases h), Lib.hid (fun _ => HTW.out)⟩
      · have ha : ¬ a = 114 := fun h => h114 (hV2.2 h)
        have HTW := Lib.hid (hR2.out ha)
        have e2 : ((q : Int) == 114) = false := by simp; omega
        have e2n : (q == 114) = false := by simp; exact h114
        clear hV2 hR2 ha h114 hz
        go_wp2
        go_meet
        exact ⟨false, rfl, Lib.hid (HFB.out.later (by repeat (first | exact Below.refl _ _ | assumption | (refine below_drewN ?_ _) | (refine Below.drew ?_) | (refine Below.alloc ?_ (by first | omega | (simp; omega) | simp) _) | (refine Below.setCell ?_ (by first | omega | (simp; omega) | simp) _) | (refine below_trans ?_ (by assumption) (by first | omega | (simp; omega) | simp))))), Lib.hid (fun _ => HTW.out), Lib.hid (fun h => by cases h)⟩
    · have HTW := Lib.hid (reg_len hn)
      have e1 : (((bs l).size : Int) == 2) = false := by rw [bs_size]; simp; omega
      have e1n : ((bs l).size == 2) = false := by rw [bs_size]; simp; exact hn
      clear hn
      go_wp2
      go_meet
      exact ⟨false, rfl, Lib.hid (HFB.out.later (by repeat (first | exact Below.refl _ _ | assumption | (refine below_drewN ?_ _) | (refine Below.drew ?_) | (refine Below.alloc ?_ (by first | omega | (simp; omega) | simp) _) | (refine Below.setCell ?_ (by first | omega | (simp; omega) | simp) _) | (refine below_trans ?_ (by assumption) (by first | omega | (simp; omega) | simp))))), Lib.hid (fun _ => HTW.out), Lib.hid (fun h => by cases h)⟩
  case rest =>
    clear HFB
    obtain ⟨b, rfl, HFB, HB0, HB1⟩ := hcut
    go_upto_if 19 with (fail)
    go_cut [8, 9] from 20 to 30 (fun rr qq wx => ∃ (u : Nat) (q : Bool), rr = .int .u64 (u : Nat) ∧ qq = .bool q ∧ Hid (FB w wx x in0) ∧ u < 18446744073709551616 ∧ Hid (q = false → regN l = none) ∧ Hid (q = true → regN l = some u))
    case first =>
      have gx := HFB.out.a.lt
      cases b with
      | false =>
        have HR := Lib.hid (HB0.out rfl)
        go_wp2
        go_meet
        exact ⟨0, false, rfl, rfl, Lib.hid (HFB.out.later (by repeat (first | exact Below.refl _ _ | assumption | (refine below_drewN ?_ _) | (refine Below.drew ?_) | (refine Below.alloc ?_ (by first | omega | (simp; omega) | simp) _) | (refine Below.setCell ?_ (by first | omega | (simp; omega) | simp) _) | (refine below_trans ?_ (by assumption) (by first | omega | (simp; omega) | simp))))), by omega, Lib.hid (fun _ => HR.out), Lib.hid (fun h => by cases h)⟩
      | true =>
        obtain ⟨b, rfl⟩ := HB1.out rfl
        have hz : (bs [114, b]).size = 2 := by rw [bs_size]; rfl
        have i1 : (1 : Int) ≤ ((bs [114, b]).size : Int) := by omega
        have HN1 := Lib.hid fun (W : World) => (by
          have := xnumber_any (w := W) ((bs [114, b]).extract 1 (bs [114, b]).size) (by rw [hz]; simp [ByteArray.size_extract]; omega)
          have e : ((bs [114, b]).extract 1 (bs [114, b]).size).data.toList = [b] := by rw [hz]; rfl
          rw [e] at this
          exact this : Calls Tryz.prog 72 #[.string ((bs [114, b]).extract 1 (bs [114, b]).size)] W fun e w' => NumA (numE [b]) e ∧ Below W.heap.size W w')
        have HRT := Lib.hid (reg_two b)
        clear hl HB0 HB1 hz
        go_wp2_with fail
        go_at_call 72
        refine (HN1.out _).mono ?_
        rintro e w2 ⟨⟨u, hu, rfl, hv⟩, hb_w2⟩
        have hs2 := hb_w2.size
        have HV := Lib.hid hv
        have HF2 := Lib.hid (HFB.out.later hb_w2)
        clear hv HN2 HN1
        generalize numE [b] = rn at *
        cases rn with
        | none =>
          have HR : Hid (regN [114, b] = none) := Lib.hid (by rw [HRT.out])
          go_wp2
          go_meet
          exact ⟨u, false, rfl, rfl, Lib.hid (HF2.out.later (by repeat (first | exact Below.refl _ _ | assumption | (refine below_drewN ?_ _) | (refine Below.drew ?_) | (refine Below.alloc ?_ (by first | omega | (simp; omega) | simp) _) | (refine Below.setCell ?_ (by first | omega | (simp; omega) | simp) _) | (refine below_trans ?_ (by assumption) (by first | omega | (simp; omega) | simp))))), hu, Lib.hid (fun _ => HR.out), Lib.hid (fun h => by cases h)⟩
        | some v =>
          obtain rfl := HV.out v rfl
          by_cases h4 : u < 4
          · have d1 : decide ((u : Int) < 4) = true := decide_eq_true (by omega)
            have d1n : decide (u < 4) = true := decide_eq_true h4
            have HR : Hid (regN [114, b] = some u) := Lib.hid (by rw [HRT.out]; exact if_pos h4)
            clear HV HRT
            go_wp2
            go_meet
            exact ⟨u, true, rfl, rfl, Lib.hid (HF2.out.later (by repeat (first | exact Below.refl _ _ | assumption | (refine below_drewN ?_ _) | (refine Below.drew ?_) | (refine Below.alloc ?_ (by first | omega | (simp; omega) | simp) _) | (refine Below.setCell ?_ (by first | omega | (simp; omega) | simp) _) | (refine below_trans ?_ (by assumption) (by first | omega | (simp; omega) | simp))))), hu, Lib.hid (fun h => by cases h), Lib.hid (fun _ => HR.out)⟩
          · have d1 : decide ((u : Int) < 4) = false := decide_eq_false (by omega)
            have d1n : decide (u < 4) = false := decide_eq_false h4
            have HR : Hid (regN [114, b] = none) := Lib.hid (by rw [HRT.out]; exact if_neg h4)
            clear HV HRT
            go_wp2
            go_meet
            exact ⟨u, false, rfl, rfl, Lib.hid (HF2.out.later (by repeat (first | exact Below.refl _ _ | assumption | (refine below_drewN ?_ _) | (refine Below.drew ?_) | (refine Below.alloc ?_ (by first | omega | (simp; omega) | simp) _) | (refine Below.setCell ?_ (by first | omega | (simp; omega) | simp) _) | (refine below_trans ?_ (by assumption) (by first | omega | (simp; omega) | simp))))), hu, Lib.hid (fun _ => HR.out), Lib.hid (fun h => by cases h)⟩
    case rest =>
      clear HFB HB0 HB1
      obtain ⟨r, q, rfl, rfl, HFB, hr64, HQ0, HQ1⟩ := hcut
      have gx := HFB.out.a.lt
      go_wp2_with fail
      go_at_call 72
      refine (HN2.out _).mono ?_
      rintro e w2 ⟨⟨u, hu, rfl, hv⟩, hb_w2⟩
      have hs2 := hb_w2.size
      have HV := Lib.hid hv
      have HF2 := HFB.out.later hb_w2
      have ga := HF2.a.lt
      have gb := HF2.b.lt
      have HNS : Hid (∀ o, isR o = false → fillO o l x = match numE l with | none => none | some u => if (u : Int) ≤ mostO o 0 then some (putO o u x) else none) := Lib.hid (fun o h => fill_num h l x)
      have HRS : Hid (∀ o, isR o = true → fillO o l x = (regN l).map fun u => putO o u x) := Lib.hid (fun o h => fill_reg h l x)
      clear hv HN2 HFB hl
      obtain ⟨c0, c1, c2, c3, c4, c5, c6, c7, c8, c9, c10⟩ := id HF2.a
      obtain ⟨z0, z1, z2, z3, z4, z5, z6, z7, z8, z9, z10⟩ := id HF2.b
      simp only [Nat.zero_add] at c0 c1 c2 c3 c4 c5 c6 c7 c8 c9 c10 z0 z1 z2 z3 z4 z5 z6 z7 z8 z9 z10
      have fa0 := HF2.fa 0
      have fb0 := HF2.fb 0
      have fa1 := HF2.fa 1
      have fb1 := HF2.fb 1
      have fa2 := HF2.fa 2
      have fb2 := HF2.fb 2
      have fa3 := HF2.fa 3
      have fb3 := HF2.fb 3
      have fa4 := HF2.fa 4
      have fb4 := HF2.fb 4
      have fa5 := HF2.fa 5
      have fb5 := HF2.fb 5
      have fa6 := HF2.fa 6
      have fb6 := HF2.fb 6
      have fa7 := HF2.fa 7
      have fb7 := HF2.fb 7
      have fa8 := HF2.fa 8
      have fb8 := HF2.fb 8
      have fa9 := HF2.fa 9
      have fb9 := HF2.fb 9
      have fa10 := HF2.fa 10
      have fb10 := HF2.fb 10
      by_cases hbig : 48 < u
      · have d1 : decide ((48 : Int) < (u : Int)) = true := decide_eq_true (by omega)
        have d1n : decide (48 < u) = true := decide_eq_true hbig
        have HF := Lib.hid HF2
        clear HF2
        go_wp2
        refine bodyPost_ret (res_in2 rfl rfl (In11.set11 x HF.out.b)) rfl ⟨⟨x, false, rfl, fun h => by (cases h), fun _ => ?_⟩, below_set11 x HF.out.below (by omega)⟩
        rw [HNS.out 4 rfl]
        cases hn : numE l with
        | none => rfl
        | some v =>
          obtain rfl := HV.out v hn
          dsimp only
          rw [if_neg (by simp only [mostO]; omega)]
      · have d1 : decide ((48 : Int) < (u : Int)) = false := decide_eq_false (by omega)
        have d1n : decide (48 < u) = false := decide_eq_false hbig
        have HP := Lib.hid (fb_put4 HF2 (i64 u))
        clear HF2
        have hi : IntKind.i64.wrap (u : Int) = i64 u := rfl
        go_wp2
        refine bodyPost_ret (res_in2 rfl rfl (In11.set11 (⟨x.kd, x.op, x.oa, x.ob, x.fd, i64 u, x.m, x.w, x.a, x.b, x.to⟩ : In) HP.out.b)) rfl ⟨⟨(⟨x.kd, x.op, x.oa, x.ob, x.fd, i64 u, x.m, x.w, x.a, x.b, x.to⟩ : In), (numE l).isSome, rfl, fun h => ?_, fun h => ?_⟩, below_set11 (⟨x.kd, x.op, x.oa, x.ob, x.fd, i64 u, x.m, x.w, x.a, x.b, x.to⟩ : In) HP.out.below (by omega)⟩
        · rw [HNS.out 4 rfl]
          cases hn : numE l with
          | none => rw [hn] at h; cases h
          | some v =>
            obtain rfl := HV.out v hn
            dsimp only
            rw [if_pos (by simp only [mostO]; omega)]
            rw [i64_small (by omega)]
            rfl
        · rw [HNS.out 4 rfl]
          cases hn : numE l with
          | none => rfl
          | some v => rw [hn] at h; cases h
set_option maxRecDepth 100000 in
set_option maxHeartbeats 8000000 in
theorem xfill_5 (x : In) (l : List UInt8) (hl : l.length ≤ 65536) : Calls Tryz.prog 43 #[inv x, .int .u8 109, .string (bs l)] w fun e w' => FillR 5 l x e ∧ Below w.heap.size w w' := by
  have HFB : Hid (FB w ((w.alloc (.cells #[.int .u8 x.kd, .int .u8 x.op, .int .i64 x.oa, .int .i64 x.ob, .int .i64 x.fd, .int .i64 x.n, .int .u64 x.m, .int .u64 x.w, .int .i64 x.a, .int .i64 x.b, .int .i64 x.to] 37)).alloc (.cells #[.int .u8 0, .int .u8 0, .int .i64 0, .int .i64 0, .int .i64 0, .int .i64 0, .int .u64 0, .int .u64 0, .int .i64 0, .int .i64 0, .int .i64 0] 37)) x in0) := Lib.hid (fb_new w x)
  have HN2 := Lib.hid fun (W : World) => xnumber_any (w := W) (bs l) (by rw [bs_size]; exact hl)
  have hd2 : (bs l).data.toList = l := bs_data l
  rw [hd2] at HN2
  clear hd2
  unfold inv
  go_enter Tryz.func43, Tryz.ntmps43
  go_upto_region 2 with (fail)
  go_cut [19] from 12 to 19 (fun v wx => ∃ b : Bool, v = .bool b ∧ Hid (FB w wx x in0) ∧ Hid (b = false → regN l = none) ∧ Hid (b = true → ∃ c, l = [114, c]))
  case first =>
    by_cases hn : l.length = 2
    · obtain ⟨a, b, rfl⟩ : ∃ a b, l = [a, b] := by
        match l, hn with
        | [a, b], _ => exact ⟨a, b, rfl⟩
      have hz : (bs [a, b]).size = 2 := by rw [bs_size]; rfl
      have i1 : (0 : Int) < ((bs [a, b]).size : Int) := by omega
      have i0 : 0 < (bs [a, b]).size := by omega
      have e1 : (((bs [a, b]).size : Int) == 2) = true := by rw [hz]; rfl
      have e1n : ((bs [a, b]).size == 2) = true := by rw [hz]; rfl
      have hC : ((bs [a, b])[0]'i0).toNat = a.toNat := rfl
      have hV := @UInt8.toNat_inj a 114
      have hR2 := Lib.hid (@reg_ne a b)
      clear hn
      generalize hq : a.toNat = q at *
      have hV2 : q = 114 ↔ a = 114 := hV
      clear hV hq
      by_cases h114 : q = 114
      · have ha := hV2.1 h114
        subst ha
        subst h114
        have HTW : Hid (∃ c, [(114 : UInt8), b] = [114, c]) := Lib.hid ⟨b, rfl⟩
        clear hV2 hR2 hz
        go_wp2
        go_meet
        exact ⟨true, rfl, Lib.hid (HFB.out.later (by repeat (first | exact Below.refl _ _ | assumption | (refine below_drewN ?_ _) | (refine Below.drew ?_) | (refine Below.alloc ?_ (by first | omega | (simp; omega) | simp) _) | (refine Below.setCell ?_ (by first | omega | (simp; omega) | simp) _) | (refine below_trans ?_ (by assumption) (by first | omega | (simp; omega) | simp))))), Lib.hid (fun h => by cases h), Lib.hid (fun _ => HTW.out)⟩
      · have ha : ¬ a = 114 := fun h => h114 (hV2.2 h)
        have HTW := Lib.hid (hR2.out ha)
        have e2 : ((q : Int) == 114) = false := by simp; omega
        have e2n : (q == 114) = false := by simp; exact h114
        clear hV2 hR2 ha h114 hz
        go_wp2
        go_meet
        exact ⟨false, rfl, Lib.hid (HFB.out.later (by repeat (first | exact Below.refl _ _ | assumption | (refine below_drewN ?_ _) | (refine Below.drew ?_) | (refine Below.alloc ?_ (by first | omega | (simp; omega) | simp) _) | (refine Below.setCell ?_ (by first | omega | (simp; omega) | simp) _) | (refine below_trans ?_ (by assumption) (by first | omega | (simp; omega) | simp))))), Lib.hid (fun _ => HTW.out), Lib.hid (fun h => by cases h)⟩
    · have HTW := Lib.hid (reg_len hn)
      have e1 : (((bs l).size : Int) == 2) = false := by rw [bs_size]; simp; omega
      have e1n : ((bs l).size == 2) = false := by rw [bs_size]; simp; exact hn
      clear hn
      go_wp2
      go_meet
      exact ⟨false, rfl, Lib.hid (HFB.out.later (by repeat (first | exact Below.refl _ _ | assumption | (refine below_drewN ?_ _) | (refine Below.drew ?_) | (refine Below.alloc ?_ (by first | omega | (simp; omega) | simp) _) | (refine Below.setCell ?_ (by first | omega | (simp; omega) | simp) _) | (refine below_trans ?_ (by assumption) (by first | omega | (simp; omega) | simp))))), Lib.hid (fun _ => HTW.out), Lib.hid (fun h => by cases h)⟩
  case rest =>
    clear HFB
    obtain ⟨b, rfl, HFB, HB0, HB1⟩ := hcut
    go_upto_if 19 with (fail)
    go_cut [8, 9] from 20 to 30 (fun rr qq wx => ∃ (u : Nat) (q : Bool), rr = .int .u64 (u : Nat) ∧ qq = .bool q ∧ Hid (FB w wx x in0) ∧ u < 18446744073709551616 ∧ Hid (q = false → regN l = none) ∧ Hid (q = true → regN l = some u))
    case first =>
      have gx := HFB.out.a.lt
      cases b with
      | false =>
        have HR := Lib.hid (HB0.out rfl)
        go_wp2
        go_meet
        exact ⟨0, false, rfl, rfl, Lib.hid (HFB.out.later (by repeat (first | exact Below.refl _ _ | assumption | (refine below_drewN ?_ _) | (refine Below.drew ?_) | (refine Below.alloc ?_ (by first | omega | (simp; omega) | simp) _) | (refine Below.setCell ?_ (by first | omega | (simp; omega) | simp) _) | (refine below_trans ?_ (by assumption) (by first | omega | (simp; omega) | simp))))), by omega, Lib.hid (fun _ => HR.out), Lib.hid (fun h => by cases h)⟩
      | true =>
        obtain ⟨b, rfl⟩ := HB1.out rfl
        have hz : (bs [114, b]).size = 2 := by rw [bs_size]; rfl
        have i1 : (1 : Int) ≤ ((bs [114, b]).size : Int) := by omega
        have HN1 := Lib.hid fun (W : World) => (by
          have := xnumber_any (w := W) ((bs [114, b]).extract 1 (bs [114, b]).size) (by rw [hz]; simp [ByteArray.size_extract]; omega)
          have e : ((bs [114, b]).extract 1 (bs [114, b]).size).data.toList = [b] := by rw [hz]; rfl
          rw [e] at this
          exact this : Calls Tryz.prog 72 #[.string ((bs [114, b]).extract 1 (bs [114, b]).size)] W fun e w' => NumA (numE [b]) e ∧ Below W.heap.size W w')
        have HRT := Lib.hid (reg_two b)
        clear hl HB0 HB1 hz
        go_wp2_with fail
        go_at_call 72
        refine (HN1.out _).mono ?_
        rintro e w2 ⟨⟨u, hu, rfl, hv⟩, hb_w2⟩
        have hs2 := hb_w2.size
        have HV := Lib.hid hv
        have HF2 := Lib.hid (HFB.out.later hb_w2)
        clear hv HN2 HN1
        generalize numE [b] = rn at *
        cases rn with
        | none =>
          have HR : Hid (regN [114, b] = none) := Lib.hid (by rw [HRT.out])
          go_wp2
          go_meet
          exact ⟨u, false, rfl, rfl, Lib.hid (HF2.out.later (by repeat (first | exact Below.refl _ _ | assumption | (refine below_drewN ?_ _) | (refine Below.drew ?_) | (refine Below.alloc ?_ (by first | omega | (simp; omega) | simp) _) | (refine Below.setCell ?_ (by first | omega | (simp; omega) | simp) _) | (refine below_trans ?_ (by assumption) (by first | omega | (simp; omega) | simp))))), hu, Lib.hid (fun _ => HR.out), Lib.hid (fun h => by cases h)⟩
        | some v =>
          obtain rfl := HV.out v rfl
          by_cases h4 : u < 4
          · have d1 : decide ((u : Int) < 4) = true := decide_eq_true (by omega)
            have d1n : decide (u < 4) = true := decide_eq_true h4
            have HR : Hid (regN [114, b] = some u) := Lib.hid (by rw [HRT.out]; exact if_pos h4)
            clear HV HRT
            go_wp2
            go_meet
            exact ⟨u, true, rfl, rfl, Lib.hid (HF2.out.later (by repeat (first | exact Below.refl _ _ | assumption | (refine below_drewN ?_ _) | (refine Below.drew ?_) | (refine Below.alloc ?_ (by first | omega | (simp; omega) | simp) _) | (refine Below.setCell ?_ (by first | omega | (simp; omega) | simp) _) | (refine below_trans ?_ (by assumption) (by first | omega | (simp; omega) | simp))))), hu, Lib.hid (fun h => by cases h), Lib.hid (fun _ => HR.out)⟩
          · have d1 : decide ((u : Int) < 4) = false := decide_eq_false (by omega)
            have d1n : decide (u < 4) = false := decide_eq_false h4
            have HR : Hid (regN [114, b] = none) := Lib.hid (by rw [HRT.out]; exact if_neg h4)
            clear HV HRT
            go_wp2
            go_meet
            exact ⟨u, false, rfl, rfl, Lib.hid (HF2.out.later (by repeat (first | exact Below.refl _ _ | assumption | (refine below_drewN ?_ _) | (refine Below.drew ?_) | (refine Below.alloc ?_ (by first | omega | (simp; omega) | simp) _) | (refine Below.setCell ?_ (by first | omega | (simp; omega) | simp) _) | (refine below_trans ?_ (by assumption) (by first | omega | (simp; omega) | simp))))), hu, Lib.hid (fun _ => HR.out), Lib.hid (fun h => by cases h)⟩
    case rest =>
      clear HFB HB0 HB1
      obtain ⟨r, q, rfl, rfl, HFB, hr64, HQ0, HQ1⟩ := hcut
      have gx := HFB.out.a.lt
      go_wp2_with fail
      go_at_call 72
      refine (HN2.out _).mono ?_
      rintro e w2 ⟨⟨u, hu, rfl, hv⟩, hb_w2⟩
      have hs2 := hb_w2.size
      have HV := Lib.hid hv
      have HF2 := HFB.out.later hb_w2
      have ga := HF2.a.lt
      have gb := HF2.b.lt
      have HNS : Hid (∀ o, isR o = false → fillO o l x = match numE l with | none => none | some u => if (u : Int) ≤ mostO o 0 then some (putO o u x) else none) := Lib.hid (fun o h => fill_num h l x)
      have HRS : Hid (∀ o, isR o = true → fillO o l x = (regN l).map fun u => putO o u x) := Lib.hid (fun o h => fill_reg h l x)
      clear hv HN2 HFB hl
      obtain ⟨c0, c1, c2, c3, c4, c5, c6, c7, c8, c9, c10⟩ := id HF2.a
      obtain ⟨z0, z1, z2, z3, z4, z5, z6, z7, z8, z9, z10⟩ := id HF2.b
      simp only [Nat.zero_add] at c0 c1 c2 c3 c4 c5 c6 c7 c8 c9 c10 z0 z1 z2 z3 z4 z5 z6 z7 z8 z9 z10
      have fa0 := HF2.fa 0
      have fb0 := HF2.fb 0
      have fa1 := HF2.fa 1
      have fb1 := HF2.fb 1
      have fa2 := HF2.fa 2
      have fb2 := HF2.fb 2
      have fa3 := HF2.fa 3
      have fb3 := HF2.fb 3
      have fa4 := HF2.fa 4
      have fb4 := HF2.fb 4
      have fa5 := HF2.fa 5
      have fb5 := HF2.fb 5
      have fa6 := HF2.fa 6
      have fb6 := HF2.fb 6
      have fa7 := HF2.fa 7
      have fb7 := HF2.fb 7
      have fa8 := HF2.fa 8
      have fb8 := HF2.fb 8
      have fa9 := HF2.fa 9
      have fb9 := HF2.fb 9
      have fa10 := HF2.fa 10
      have fb10 := HF2.fb 10
      have HP := Lib.hid (fb_put5 HF2 (u))
      clear HF2
      go_wp2
      refine bodyPost_ret (res_in2 rfl rfl (In11.set11 (⟨x.kd, x.op, x.oa, x.ob, x.fd, x.n, u, x.w, x.a, x.b, x.to⟩ : In) HP.out.b)) rfl ⟨⟨(⟨x.kd, x.op, x.oa, x.ob, x.fd, x.n, u, x.w, x.a, x.b, x.to⟩ : In), (numE l).isSome, rfl, fun h => ?_, fun h => ?_⟩, below_set11 (⟨x.kd, x.op, x.oa, x.ob, x.fd, x.n, u, x.w, x.a, x.b, x.to⟩ : In) HP.out.below (by omega)⟩
      · rw [HNS.out 5 rfl]
        cases hn : numE l with
        | none => rw [hn] at h; cases h
        | some v =>
          obtain rfl := HV.out v hn
          dsimp only
          rw [if_pos (by simp only [mostO]; omega)]
          rfl
      · rw [HNS.out 5 rfl]
        cases hn : numE l with
        | none => rfl
        | some v => rw [hn] at h; cases h
set_option maxRecDepth 100000 in
set_option maxHeartbeats 8000000 in
theorem xfill_6 (x : In) (l : List UInt8) (hl : l.length ≤ 65536) : Calls Tryz.prog 43 #[inv x, .int .u8 119, .string (bs l)] w fun e w' => FillR 6 l x e ∧ Below w.heap.size w w' := by
  have HFB : Hid (FB w ((w.alloc (.cells #[.int .u8 x.kd, .int .u8 x.op, .int .i64 x.oa, .int .i64 x.ob, .int .i64 x.fd, .int .i64 x.n, .int .u64 x.m, .int .u64 x.w, .int .i64 x.a, .int .i64 x.b, .int .i64 x.to] 37)).alloc (.cells #[.int .u8 0, .int .u8 0, .int .i64 0, .int .i64 0, .int .i64 0, .int .i64 0, .int .u64 0, .int .u64 0, .int .i64 0, .int .i64 0, .int .i64 0] 37)) x in0) := Lib.hid (fb_new w x)
  have HN2 := Lib.hid fun (W : World) => xnumber_any (w := W) (bs l) (by rw [bs_size]; exact hl)
  have hd2 : (bs l).data.toList = l := bs_data l
  rw [hd2] at HN2
  clear hd2
  unfold inv
  go_enter Tryz.func43, Tryz.ntmps43
  go_upto_region 2 with (fail)
  go_cut [19] from 12 to 19 (fun v wx => ∃ b : Bool, v = .bool b ∧ Hid (FB w wx x in0) ∧ Hid (b = false → regN l = none) ∧ Hid (b = true → ∃ c, l = [114, c]))
  case first =>
    by_cases hn : l.length = 2
    · obtain ⟨a, b, rfl⟩ : ∃ a b, l = [a, b] := by
        match l, hn with
        | [a, b], _ => exact ⟨a, b, rfl⟩
      have hz : (bs [a, b]).size = 2 := by rw [bs_size]; rfl
      have i1 : (0 : Int) < ((bs [a, b]).size : Int) := by omega
      have i0 : 0 < (bs [a, b]).size := by omega
      have e1 : (((bs [a, b]).size : Int) == 2) = true := by rw [hz]; rfl
      have e1n : ((bs [a, b]).size == 2) = true := by rw [hz]; rfl
      have hC : ((bs [a, b])[0]'i0).toNat = a.toNat := rfl
      have hV := @UInt8.toNat_inj a 114
      have hR2 := Lib.hid (@reg_ne a b)
      clear hn
      generalize hq : a.toNat = q at *
      have hV2 : q = 114 ↔ a = 114 := hV
      clear hV hq
      by_cases h114 : q = 114
      · have ha := hV2.1 h114
        subst ha
        subst h114
        have HTW : Hid (∃ c, [(114 : UInt8), b] = [114, c]) := Lib.hid ⟨b, rfl⟩
        clear hV2 hR2 hz
        go_wp2
        go_meet
        exact ⟨true, rfl, Lib.hid (HFB.out.later (by repeat (first | exact Below.refl _ _ | assumption | (refine below_drewN ?_ _) | (refine Below.drew ?_) | (refine Below.alloc ?_ (by first | omega | (simp; omega) | simp) _) | (refine Below.setCell ?_ (by first | omega | (simp; omega) | simp) _) | (refine below_trans ?_ (by assumption) (by first | omega | (simp; omega) | simp))))), Lib.hid (fun h => by cases h), Lib.hid (fun _ => HTW.out)⟩
      · have ha : ¬ a = 114 := fun h => h114 (hV2.2 h)
        have HTW := Lib.hid (hR2.out ha)
        have e2 : ((q : Int) == 114) = false := by simp; omega
        have e2n : (q == 114) = false := by simp; exact h114
        clear hV2 hR2 ha h114 hz
        go_wp2
        go_meet
        exact ⟨false, rfl, Lib.hid (HFB.out.later (by repeat (first | exact Below.refl _ _ | assumption | (refine below_drewN ?_ _) | (refine Below.drew ?_) | (refine Below.alloc ?_ (by first | omega | (simp; omega) | simp) _) | (refine Below.setCell ?_ (by first | omega | (simp; omega) | simp) _) | (refine below_trans ?_ (by assumption) (by first | omega | (simp; omega) | simp))))), Lib.hid (fun _ => HTW.out), Lib.hid (fun h => by cases h)⟩
    · have HTW := Lib.hid (reg_len hn)
      have e1 : (((bs l).size : Int) == 2) = false := by rw [bs_size]; simp; omega
      have e1n : ((bs l).size == 2) = false := by rw [bs_size]; simp; exact hn
      clear hn
      go_wp2
      go_meet
      exact ⟨false, rfl, Lib.hid (HFB.out.later (by repeat (first | exact Below.refl _ _ | assumption | (refine below_drewN ?_ _) | (refine Below.drew ?_) | (refine Below.alloc ?_ (by first | omega | (simp; omega) | simp) _) | (refine Below.setCell ?_ (by first | omega | (simp; omega) | simp) _) | (refine below_trans ?_ (by assumption) (by first | omega | (simp; omega) | simp))))), Lib.hid (fun _ => HTW.out), Lib.hid (fun h => by cases h)⟩
  case rest =>
    clear HFB
    obtain ⟨b, rfl, HFB, HB0, HB1⟩ := hcut
    go_upto_if 19 with (fail)
    go_cut [8, 9] from 20 to 30 (fun rr qq wx => ∃ (u : Nat) (q : Bool), rr = .int .u64 (u : Nat) ∧ qq = .bool q ∧ Hid (FB w wx x in0) ∧ u < 18446744073709551616 ∧ Hid (q = false → regN l = none) ∧ Hid (q = true → regN l = some u))
    case first =>
      have gx := HFB.out.a.lt
      cases b with
      | false =>
        have HR := Lib.hid (HB0.out rfl)
        go_wp2
        go_meet
        exact ⟨0, false, rfl, rfl, Lib.hid (HFB.out.later (by repeat (first | exact Below.refl _ _ | assumption | (refine below_drewN ?_ _) | (refine Below.drew ?_) | (refine Below.alloc ?_ (by first | omega | (simp; omega) | simp) _) | (refine Below.setCell ?_ (by first | omega | (simp; omega) | simp) _) | (refine below_trans ?_ (by assumption) (by first | omega | (simp; omega) | simp))))), by omega, Lib.hid (fun _ => HR.out), Lib.hid (fun h => by cases h)⟩
      | true =>
        obtain ⟨b, rfl⟩ := HB1.out rfl
        have hz : (bs [114, b]).size = 2 := by rw [bs_size]; rfl
        have i1 : (1 : Int) ≤ ((bs [114, b]).size : Int) := by omega
        have HN1 := Lib.hid fun (W : World) => (by
          have := xnumber_any (w := W) ((bs [114, b]).extract 1 (bs [114, b]).size) (by rw [hz]; simp [ByteArray.size_extract]; omega)
          have e : ((bs [114, b]).extract 1 (bs [114, b]).size).data.toList = [b] := by rw [hz]; rfl
          rw [e] at this
          exact this : Calls Tryz.prog 72 #[.string ((bs [114, b]).extract 1 (bs [114, b]).size)] W fun e w' => NumA (numE [b]) e ∧ Below W.heap.size W w')
        have HRT := Lib.hid (reg_two b)
        clear hl HB0 HB1 hz
        go_wp2_with fail
        go_at_call 72
        refine (HN1.out _).mono ?_
        rintro e w2 ⟨⟨u, hu, rfl, hv⟩, hb_w2⟩
        have hs2 := hb_w2.size
        have HV := Lib.hid hv
        have HF2 := Lib.hid (HFB.out.later hb_w2)
        clear hv HN2 HN1
        generalize numE [b] = rn at *
        cases rn with
        | none =>
          have HR : Hid (regN [114, b] = none) := Lib.hid (by rw [HRT.out])
          go_wp2
          go_meet
          exact ⟨u, false, rfl, rfl, Lib.hid (HF2.out.later (by repeat (first | exact Below.refl _ _ | assumption | (refine below_drewN ?_ _) | (refine Below.drew ?_) | (refine Below.alloc ?_ (by first | omega | (simp; omega) | simp) _) | (refine Below.setCell ?_ (by first | omega | (simp; omega) | simp) _) | (refine below_trans ?_ (by assumption) (by first | omega | (simp; omega) | simp))))), hu, Lib.hid (fun _ => HR.out), Lib.hid (fun h => by cases h)⟩
        | some v =>
          obtain rfl := HV.out v rfl
          by_cases h4 : u < 4
          · have d1 : decide ((u : Int) < 4) = true := decide_eq_true (by omega)
            have d1n : decide (u < 4) = true := decide_eq_true h4
            have HR : Hid (regN [114, b] = some u) := Lib.hid (by rw [HRT.out]; exact if_pos h4)
            clear HV HRT
            go_wp2
            go_meet
            exact ⟨u, true, rfl, rfl, Lib.hid (HF2.out.later (by repeat (first | exact Below.refl _ _ | assumption | (refine below_drewN ?_ _) | (refine Below.drew ?_) | (refine Below.alloc ?_ (by first | omega | (simp; omega) | simp) _) | (refine Below.setCell ?_ (by first | omega | (simp; omega) | simp) _) | (refine below_trans ?_ (by assumption) (by first | omega | (simp; omega) | simp))))), hu, Lib.hid (fun h => by cases h), Lib.hid (fun _ => HR.out)⟩
          · have d1 : decide ((u : Int) < 4) = false := decide_eq_false (by omega)
            have d1n : decide (u < 4) = false := decide_eq_false h4
            have HR : Hid (regN [114, b] = none) := Lib.hid (by rw [HRT.out]; exact if_neg h4)
            clear HV HRT
            go_wp2
            go_meet
            exact ⟨u, false, rfl, rfl, Lib.hid (HF2.out.later (by repeat (first | exact Below.refl _ _ | assumption | (refine below_drewN ?_ _) | (refine Below.drew ?_) | (refine Below.alloc ?_ (by first | omega | (simp; omega) | simp) _) | (refine Below.setCell ?_ (by first | omega | (simp; omega) | simp) _) | (refine below_trans ?_ (by assumption) (by first | omega | (simp; omega) | simp))))), hu, Lib.hid (fun _ => HR.out), Lib.hid (fun h => by cases h)⟩
    case rest =>
      clear HFB HB0 HB1
      obtain ⟨r, q, rfl, rfl, HFB, hr64, HQ0, HQ1⟩ := hcut
      have gx := HFB.out.a.lt
      go_wp2_with fail
      go_at_call 72
      refine (HN2.out _).mono ?_
      rintro e w2 ⟨⟨u, hu, rfl, hv⟩, hb_w2⟩
      have hs2 := hb_w2.size
      have HV := Lib.hid hv
      have HF2 := HFB.out.later hb_w2
      have ga := HF2.a.lt
      have gb := HF2.b.lt
      have HNS : Hid (∀ o, isR o = false → fillO o l x = match numE l with | none => none | some u => if (u : Int) ≤ mostO o 0 then some (putO o u x) else none) := Lib.hid (fun o h => fill_num h l x)
      have HRS : Hid (∀ o, isR o = true → fillO o l x = (regN l).map fun u => putO o u x) := Lib.hid (fun o h => fill_reg h l x)
      clear hv HN2 HFB hl
      obtain ⟨c0, c1, c2, c3, c4, c5, c6, c7, c8, c9, c10⟩ := id HF2.a
      obtain ⟨z0, z1, z2, z3, z4, z5, z6, z7, z8, z9, z10⟩ := id HF2.b
      simp only [Nat.zero_add] at c0 c1 c2 c3 c4 c5 c6 c7 c8 c9 c10 z0 z1 z2 z3 z4 z5 z6 z7 z8 z9 z10
      have fa0 := HF2.fa 0
      have fb0 := HF2.fb 0
      have fa1 := HF2.fa 1
      have fb1 := HF2.fb 1
      have fa2 := HF2.fa 2
      have fb2 := HF2.fb 2
      have fa3 := HF2.fa 3
      have fb3 := HF2.fb 3
      have fa4 := HF2.fa 4
      have fb4 := HF2.fb 4
      have fa5 := HF2.fa 5
      have fb5 := HF2.fb 5
      have fa6 := HF2.fa 6
      have fb6 := HF2.fb 6
      have fa7 := HF2.fa 7
      have fb7 := HF2.fb 7
      have fa8 := HF2.fa 8
      have fb8 := HF2.fb 8
      have fa9 := HF2.fa 9
      have fb9 := HF2.fb 9
      have fa10 := HF2.fa 10
      have fb10 := HF2.fb 10
      have HP := Lib.hid (fb_put6 HF2 (u))
      clear HF2
      go_wp2
      refine bodyPost_ret (res_in2 rfl rfl (In11.set11 (⟨x.kd, x.op, x.oa, x.ob, x.fd, x.n, x.m, u, x.a, x.b, x.to⟩ : In) HP.out.b)) rfl ⟨⟨(⟨x.kd, x.op, x.oa, x.ob, x.fd, x.n, x.m, u, x.a, x.b, x.to⟩ : In), (numE l).isSome, rfl, fun h => ?_, fun h => ?_⟩, below_set11 (⟨x.kd, x.op, x.oa, x.ob, x.fd, x.n, x.m, u, x.a, x.b, x.to⟩ : In) HP.out.below (by omega)⟩
      · rw [HNS.out 6 rfl]
        cases hn : numE l with
        | none => rw [hn] at h; cases h
        | some v =>
          obtain rfl := HV.out v hn
          dsimp only
          rw [if_pos (by simp only [mostO]; omega)]
          rfl
      · rw [HNS.out 6 rfl]
        cases hn : numE l with
        | none => rfl
        | some v => rw [hn] at h; cases h
set_option maxRecDepth 100000 in
set_option maxHeartbeats 8000000 in
theorem xfill_7 (x : In) (l : List UInt8) (hl : l.length ≤ 65536) : Calls Tryz.prog 43 #[inv x, .int .u8 65, .string (bs l)] w fun e w' => FillR 7 l x e ∧ Below w.heap.size w w' := by
  have HFB : Hid (FB w ((w.alloc (.cells #[.int .u8 x.kd, .int .u8 x.op, .int .i64 x.oa, .int .i64 x.ob, .int .i64 x.fd, .int .i64 x.n, .int .u64 x.m, .int .u64 x.w, .int .i64 x.a, .int .i64 x.b, .int .i64 x.to] 37)).alloc (.cells #[.int .u8 0, .int .u8 0, .int .i64 0, .int .i64 0, .int .i64 0, .int .i64 0, .int .u64 0, .int .u64 0, .int .i64 0, .int .i64 0, .int .i64 0] 37)) x in0) := Lib.hid (fb_new w x)
  have HN2 := Lib.hid fun (W : World) => xnumber_any (w := W) (bs l) (by rw [bs_size]; exact hl)
  have hd2 : (bs l).data.toList = l := bs_data l
  rw [hd2] at HN2
  clear hd2
  unfold inv
  go_enter Tryz.func43, Tryz.ntmps43
  go_upto_region 2 with (fail)
  go_cut [19] from 12 to 19 (fun v wx => ∃ b : Bool, v = .bool b ∧ Hid (FB w wx x in0) ∧ Hid (b = false → regN l = none) ∧ Hid (b = true → ∃ c, l = [114, c]))
  case first =>
    by_cases hn : l.length = 2
    · obtain ⟨a, b, rfl⟩ : ∃ a b, l = [a, b] := by
        match l, hn with
        | [a, b], _ => exact ⟨a, b, rfl⟩
      have hz : (bs [a, b]).size = 2 := by rw [bs_size]; rfl
      have i1 : (0 : Int) < ((bs [a, b]).size : Int) := by omega
      have i0 : 0 < (bs [a, b]).size := by omega
      have e1 : (((bs [a, b]).size : Int) == 2) = true := by rw [hz]; rfl
      have e1n : ((bs [a, b]).size == 2) = true := by rw [hz]; rfl
      have hC : ((bs [a, b])[0]'i0).toNat = a.toNat := rfl
      have hV := @UInt8.toNat_inj a 114
      have hR2 := Lib.hid (@reg_ne a b)
      clear hn
      generalize hq : a.toNat = q at *
      have hV2 : q = 114 ↔ a = 114 := hV
      clear hV hq
      by_cases h114 : q = 114
      · have ha := hV2.1 h114
        subst ha
        subst h114
        have HTW : Hid (∃ c, [(114 : UInt8), b] = [114, c]) := Lib.hid ⟨b, rfl⟩
        clear hV2 hR2 hz
        go_wp2
        go_meet
        exact ⟨true, rfl, Lib.hid (HFB.out.later (by repeat (first | exact Below.refl _ _ | assumption | (refine below_drewN ?_ _) | (refine Below.drew ?_) | (refine Below.alloc ?_ (by first | omega | (simp; omega) | simp) _) | (refine Below.setCell ?_ (by first | omega | (simp; omega) | simp) _) | (refine below_trans ?_ (by assumption) (by first | omega | (simp; omega) | simp))))), Lib.hid (fun h => by cases h), Lib.hid (fun _ => HTW.out)⟩
      · have ha : ¬ a = 114 := fun h => h114 (hV2.2 h)
        have HTW := Lib.hid (hR2.out ha)
        have e2 : ((q : Int) == 114) = false := by simp; omega
        have e2n : (q == 114) = false := by simp; exact h114
        clear hV2 hR2 ha h114 hz
        go_wp2
        go_meet
        exact ⟨false, rfl, Lib.hid (HFB.out.later (by repeat (first | exact Below.refl _ _ | assumption | (refine below_drewN ?_ _) | (refine Below.drew ?_) | (refine Below.alloc ?_ (by first | omega | (simp; omega) | simp) _) | (refine Below.setCell ?_ (by first | omega | (simp; omega) | simp) _) | (refine below_trans ?_ (by assumption) (by first | omega | (simp; omega) | simp))))), Lib.hid (fun _ => HTW.out), Lib.hid (fun h => by cases h)⟩
    · have HTW := Lib.hid (reg_len hn)
      have e1 : (((bs l).size : Int) == 2) = false := by rw [bs_size]; simp; omega
      have e1n : ((bs l).size == 2) = false := by rw [bs_size]; simp; exact hn
      clear hn
      go_wp2
      go_meet
      exact ⟨false, rfl, Lib.hid (HFB.out.later (by repeat (first | exact Below.refl _ _ | assumption | (refine below_drewN ?_ _) | (refine Below.drew ?_) | (refine Below.alloc ?_ (by first | omega | (simp; omega) | simp) _) | (refine Below.setCell ?_ (by first | omega | (simp; omega) | simp) _) | (refine below_trans ?_ (by assumption) (by first | omega | (simp; omega) | simp))))), Lib.hid (fun _ => HTW.out), Lib.hid (fun h => by cases h)⟩
  case rest =>
    clear HFB
    obtain ⟨b, rfl, HFB, HB0, HB1⟩ := hcut
    go_upto_if 19 with (fail)
    go_cut [8, 9] from 20 to 30 (fun rr qq wx => ∃ (u : Nat) (q : Bool), rr = .int .u64 (u : Nat) ∧ qq = .bool q ∧ Hid (FB w wx x in0) ∧ u < 18446744073709551616 ∧ Hid (q = false → regN l = none) ∧ Hid (q = true → regN l = some u))
    case first =>
      have gx := HFB.out.a.lt
      cases b with
      | false =>
        have HR := Lib.hid (HB0.out rfl)
        go_wp2
        go_meet
        exact ⟨0, false, rfl, rfl, Lib.hid (HFB.out.later (by repeat (first | exact Below.refl _ _ | assumption | (refine below_drewN ?_ _) | (refine Below.drew ?_) | (refine Below.alloc ?_ (by first | omega | (simp; omega) | simp) _) | (refine Below.setCell ?_ (by first | omega | (simp; omega) | simp) _) | (refine below_trans ?_ (by assumption) (by first | omega | (simp; omega) | simp))))), by omega, Lib.hid (fun _ => HR.out), Lib.hid (fun h => by cases h)⟩
      | true =>
        obtain ⟨b, rfl⟩ := HB1.out rfl
        have hz : (bs [114, b]).size = 2 := by rw [bs_size]; rfl
        have i1 : (1 : Int) ≤ ((bs [114, b]).size : Int) := by omega
        have HN1 := Lib.hid fun (W : World) => (by
          have := xnumber_any (w := W) ((bs [114, b]).extract 1 (bs [114, b]).size) (by rw [hz]; simp [ByteArray.size_extract]; omega)
          have e : ((bs [114, b]).extract 1 (bs [114, b]).size).data.toList = [b] := by rw [hz]; rfl
          rw [e] at this
          exact this : Calls Tryz.prog 72 #[.string ((bs [114, b]).extract 1 (bs [114, b]).size)] W fun e w' => NumA (numE [b]) e ∧ Below W.heap.size W w')
        have HRT := Lib.hid (reg_two b)
        clear hl HB0 HB1 hz
        go_wp2_with fail
        go_at_call 72
        refine (HN1.out _).mono ?_
        rintro e w2 ⟨⟨u, hu, rfl, hv⟩, hb_w2⟩
        have hs2 := hb_w2.size
        have HV := Lib.hid hv
        have HF2 := Lib.hid (HFB.out.later hb_w2)
        clear hv HN2 HN1
        generalize numE [b] = rn at *
        cases rn with
        | none =>
          have HR : Hid (regN [114, b] = none) := Lib.hid (by rw [HRT.out])
          go_wp2
          go_meet
          exact ⟨u, false, rfl, rfl, Lib.hid (HF2.out.later (by repeat (first | exact Below.refl _ _ | assumption | (refine below_drewN ?_ _) | (refine Below.drew ?_) | (refine Below.alloc ?_ (by first | omega | (simp; omega) | simp) _) | (refine Below.setCell ?_ (by first | omega | (simp; omega) | simp) _) | (refine below_trans ?_ (by assumption) (by first | omega | (simp; omega) | simp))))), hu, Lib.hid (fun _ => HR.out), Lib.hid (fun h => by cases h)⟩
        | some v =>
          obtain rfl := HV.out v rfl
          by_cases h4 : u < 4
          · have d1 : decide ((u : Int) < 4) = true := decide_eq_true (by omega)
            have d1n : decide (u < 4) = true := decide_eq_true h4
            have HR : Hid (regN [114, b] = some u) := Lib.hid (by rw [HRT.out]; exact if_pos h4)
            clear HV HRT
            go_wp2
            go_meet
            exact ⟨u, true, rfl, rfl, Lib.hid (HF2.out.later (by repeat (first | exact Below.refl _ _ | assumption | (refine below_drewN ?_ _) | (refine Below.drew ?_) | (refine Below.alloc ?_ (by first | omega | (simp; omega) | simp) _) | (refine Below.setCell ?_ (by first | omega | (simp; omega) | simp) _) | (refine below_trans ?_ (by assumption) (by first | omega | (simp; omega) | simp))))), hu, Lib.hid (fun h => by cases h), Lib.hid (fun _ => HR.out)⟩
          · have d1 : decide ((u : Int) < 4) = false := decide_eq_false (by omega)
            have d1n : decide (u < 4) = false := decide_eq_false h4
            have HR : Hid (regN [114, b] = none) := Lib.hid (by rw [HRT.out]; exact if_neg h4)
            clear HV HRT
            go_wp2
            go_meet
            exact ⟨u, false, rfl, rfl, Lib.hid (HF2.out.later (by repeat (first | exact Below.refl _ _ | assumption | (refine below_drewN ?_ _) | (refine Below.drew ?_) | (refine Below.alloc ?_ (by first | omega | (simp; omega) | simp) _) | (refine Below.setCell ?_ (by first | omega | (simp; omega) | simp) _) | (refine below_trans ?_ (by assumption) (by first | omega | (simp; omega) | simp))))), hu, Lib.hid (fun _ => HR.out), Lib.hid (fun h => by cases h)⟩
    case rest =>
      clear HFB HB0 HB1
      obtain ⟨r, q, rfl, rfl, HFB, hr64, HQ0, HQ1⟩ := hcut
      have gx := HFB.out.a.lt
      go_wp2_with fail
      go_at_call 72
      refine (HN2.out _).mono ?_
      rintro e w2 ⟨⟨u, hu, rfl, hv⟩, hb_w2⟩
      have hs2 := hb_w2.size
      have HV := Lib.hid hv
      have HF2 := HFB.out.later hb_w2
      have ga := HF2.a.lt
      have gb := HF2.b.lt
      have HNS : Hid (∀ o, isR o = false → fillO o l x = match numE l with | none => none | some u => if (u : Int) ≤ mostO o 0 then some (putO o u x) else none) := Lib.hid (fun o h => fill_num h l x)
      have HRS : Hid (∀ o, isR o = true → fillO o l x = (regN l).map fun u => putO o u x) := Lib.hid (fun o h => fill_reg h l x)
      clear hv HN2 HFB hl
      obtain ⟨c0, c1, c2, c3, c4, c5, c6, c7, c8, c9, c10⟩ := id HF2.a
      obtain ⟨z0, z1, z2, z3, z4, z5, z6, z7, z8, z9, z10⟩ := id HF2.b
      simp only [Nat.zero_add] at c0 c1 c2 c3 c4 c5 c6 c7 c8 c9 c10 z0 z1 z2 z3 z4 z5 z6 z7 z8 z9 z10
      have fa0 := HF2.fa 0
      have fb0 := HF2.fb 0
      have fa1 := HF2.fa 1
      have fb1 := HF2.fb 1
      have fa2 := HF2.fa 2
      have fb2 := HF2.fb 2
      have fa3 := HF2.fa 3
      have fb3 := HF2.fb 3
      have fa4 := HF2.fa 4
      have fb4 := HF2.fb 4
      have fa5 := HF2.fa 5
      have fb5 := HF2.fb 5
      have fa6 := HF2.fa 6
      have fb6 := HF2.fb 6
      have fa7 := HF2.fa 7
      have fb7 := HF2.fb 7
      have fa8 := HF2.fa 8
      have fb8 := HF2.fb 8
      have fa9 := HF2.fa 9
      have fb9 := HF2.fb 9
      have fa10 := HF2.fa 10
      have fb10 := HF2.fb 10
      have HF := Lib.hid HF2
      have HP := Lib.hid (fb_put7 HF2 (i64 r))
      clear HF2
      have hi : IntKind.i64.wrap (r : Int) = i64 r := rfl
      go_wp2
      refine bodyPost_ret (res_in2 rfl rfl (In11.set11 (⟨x.kd, x.op, x.oa, x.ob, x.fd, x.n, x.m, x.w, i64 r, x.b, x.to⟩ : In) HP.out.b)) rfl ⟨⟨(⟨x.kd, x.op, x.oa, x.ob, x.fd, x.n, x.m, x.w, i64 r, x.b, x.to⟩ : In), q, rfl, fun h => ?_, fun h => ?_⟩, below_set11 (⟨x.kd, x.op, x.oa, x.ob, x.fd, x.n, x.m, x.w, i64 r, x.b, x.to⟩ : In) HP.out.below (by omega)⟩
      · rw [HRS.out 7 rfl, HQ1.out h]
        have h4 := reg_lt (HQ1.out h)
        rw [i64_small (show r < 9223372036854775808 by omega)]
        rfl
      · rw [HRS.out 7 rfl, HQ0.out h]; rfl
set_option maxRecDepth 100000 in
set_option maxHeartbeats 8000000 in
theorem xfill_8 (x : In) (l : List UInt8) (hl : l.length ≤ 65536) : Calls Tryz.prog 43 #[inv x, .int .u8 66, .string (bs l)] w fun e w' => FillR 8 l x e ∧ Below w.heap.size w w' := by
  have HFB : Hid (FB w ((w.alloc (.cells #[.int .u8 x.kd, .int .u8 x.op, .int .i64 x.oa, .int .i64 x.ob, .int .i64 x.fd, .int .i64 x.n, .int .u64 x.m, .int .u64 x.w, .int .i64 x.a, .int .i64 x.b, .int .i64 x.to] 37)).alloc (.cells #[.int .u8 0, .int .u8 0, .int .i64 0, .int .i64 0, .int .i64 0, .int .i64 0, .int .u64 0, .int .u64 0, .int .i64 0, .int .i64 0, .int .i64 0] 37)) x in0) := Lib.hid (fb_new w x)
  have HN2 := Lib.hid fun (W : World) => xnumber_any (w := W) (bs l) (by rw [bs_size]; exact hl)
  have hd2 : (bs l).data.toList = l := bs_data l
  rw [hd2] at HN2
  clear hd2
  unfold inv
  go_enter Tryz.func43, Tryz.ntmps43
  go_upto_region 2 with (fail)
  go_cut [19] from 12 to 19 (fun v wx => ∃ b : Bool, v = .bool b ∧ Hid (FB w wx x in0) ∧ Hid (b = false → regN l = none) ∧ Hid (b = true → ∃ c, l = [114, c]))
  case first =>
    by_cases hn : l.length = 2
    · obtain ⟨a, b, rfl⟩ : ∃ a b, l = [a, b] := by
        match l, hn with
        | [a, b], _ => exact ⟨a, b, rfl⟩
      have hz : (bs [a, b]).size = 2 := by rw [bs_size]; rfl
      have i1 : (0 : Int) < ((bs [a, b]).size : Int) := by omega
      have i0 : 0 < (bs [a, b]).size := by omega
      have e1 : (((bs [a, b]).size : Int) == 2) = true := by rw [hz]; rfl
      have e1n : ((bs [a, b]).size == 2) = true := by rw [hz]; rfl
      have hC : ((bs [a, b])[0]'i0).toNat = a.toNat := rfl
      have hV := @UInt8.toNat_inj a 114
      have hR2 := Lib.hid (@reg_ne a b)
      clear hn
      generalize hq : a.toNat = q at *
      have hV2 : q = 114 ↔ a = 114 := hV
      clear hV hq
      by_cases h114 : q = 114
      · have ha := hV2.1 h114
        subst ha
        subst h114
        have HTW : Hid (∃ c, [(114 : UInt8), b] = [114, c]) := Lib.hid ⟨b, rfl⟩
        clear hV2 hR2 hz
        go_wp2
        go_meet
        exact ⟨true, rfl, Lib.hid (HFB.out.later (by repeat (first | exact Below.refl _ _ | assumption | (refine below_drewN ?_ _) | (refine Below.drew ?_) | (refine Below.alloc ?_ (by first | omega | (simp; omega) | simp) _) | (refine Below.setCell ?_ (by first | omega | (simp; omega) | simp) _) | (refine below_trans ?_ (by assumption) (by first | omega | (simp; omega) | simp))))), Lib.hid (fun h => by cases h), Lib.hid (fun _ => HTW.out)⟩
      · have ha : ¬ a = 114 := fun h => h114 (hV2.2 h)
        have HTW := Lib.hid (hR2.out ha)
        have e2 : ((q : Int) == 114) = false := by simp; omega
        have e2n : (q == 114) = false := by simp; exact h114
        clear hV2 hR2 ha h114 hz
        go_wp2
        go_meet
        exact ⟨false, rfl, Lib.hid (HFB.out.later (by repeat (first | exact Below.refl _ _ | assumption | (refine below_drewN ?_ _) | (refine Below.drew ?_) | (refine Below.alloc ?_ (by first | omega | (simp; omega) | simp) _) | (refine Below.setCell ?_ (by first | omega | (simp; omega) | simp) _) | (refine below_trans ?_ (by assumption) (by first | omega | (simp; omega) | simp))))), Lib.hid (fun _ => HTW.out), Lib.hid (fun h => by cases h)⟩
    · have HTW := Lib.hid (reg_len hn)
      have e1 : (((bs l).size : Int) == 2) = false := by rw [bs_size]; simp; omega
      have e1n : ((bs l).size == 2) = false := by rw [bs_size]; simp; exact hn
      clear hn
      go_wp2
      go_meet
      exact ⟨false, rfl, Lib.hid (HFB.out.later (by repeat (first | exact Below.refl _ _ | assumption | (refine below_drewN ?_ _) | (refine Below.drew ?_) | (refine Below.alloc ?_ (by first | omega | (simp; omega) | simp) _) | (refine Below.setCell ?_ (by first | omega | (simp; omega) | simp) _) | (refine below_trans ?_ (by assumption) (by first | omega | (simp; omega) | simp))))), Lib.hid (fun _ => HTW.out), Lib.hid (fun h => by cases h)⟩
  case rest =>
    clear HFB
    obtain ⟨b, rfl, HFB, HB0, HB1⟩ := hcut
    go_upto_if 19 with (fail)
    go_cut [8, 9] from 20 to 30 (fun rr qq wx => ∃ (u : Nat) (q : Bool), rr = .int .u64 (u : Nat) ∧ qq = .bool q ∧ Hid (FB w wx x in0) ∧ u < 18446744073709551616 ∧ Hid (q = false → regN l = none) ∧ Hid (q = true → regN l = some u))
    case first =>
      have gx := HFB.out.a.lt
      cases b with
      | false =>
        have HR := Lib.hid (HB0.out rfl)
        go_wp2
        go_meet
        exact ⟨0, false, rfl, rfl, Lib.hid (HFB.out.later (by repeat (first | exact Below.refl _ _ | assumption | (refine below_drewN ?_ _) | (refine Below.drew ?_) | (refine Below.alloc ?_ (by first | omega | (simp; omega) | simp) _) | (refine Below.setCell ?_ (by first | omega | (simp; omega) | simp) _) | (refine below_trans ?_ (by assumption) (by first | omega | (simp; omega) | simp))))), by omega, Lib.hid (fun _ => HR.out), Lib.hid (fun h => by cases h)⟩
      | true =>
        obtain ⟨b, rfl⟩ := HB1.out rfl
        have hz : (bs [114, b]).size = 2 := by rw [bs_size]; rfl
        have i1 : (1 : Int) ≤ ((bs [114, b]).size : Int) := by omega
        have HN1 := Lib.hid fun (W : World) => (by
          have := xnumber_any (w := W) ((bs [114, b]).extract 1 (bs [114, b]).size) (by rw [hz]; simp [ByteArray.size_extract]; omega)
          have e : ((bs [114, b]).extract 1 (bs [114, b]).size).data.toList = [b] := by rw [hz]; rfl
          rw [e] at this
          exact this : Calls Tryz.prog 72 #[.string ((bs [114, b]).extract 1 (bs [114, b]).size)] W fun e w' => NumA (numE [b]) e ∧ Below W.heap.size W w')
        have HRT := Lib.hid (reg_two b)
        clear hl HB0 HB1 hz
        go_wp2_with fail
        go_at_call 72
        refine (HN1.out _).mono ?_
        rintro e w2 ⟨⟨u, hu, rfl, hv⟩, hb_w2⟩
        have hs2 := hb_w2.size
        have HV := Lib.hid hv
        have HF2 := Lib.hid (HFB.out.later hb_w2)
        clear hv HN2 HN1
        generalize numE [b] = rn at *
        cases rn with
        | none =>
          have HR : Hid (regN [114, b] = none) := Lib.hid (by rw [HRT.out])
          go_wp2
          go_meet
          exact ⟨u, false, rfl, rfl, Lib.hid (HF2.out.later (by repeat (first | exact Below.refl _ _ | assumption | (refine below_drewN ?_ _) | (refine Below.drew ?_) | (refine Below.alloc ?_ (by first | omega | (simp; omega) | simp) _) | (refine Below.setCell ?_ (by first | omega | (simp; omega) | simp) _) | (refine below_trans ?_ (by assumption) (by first | omega | (simp; omega) | simp))))), hu, Lib.hid (fun _ => HR.out), Lib.hid (fun h => by cases h)⟩
        | some v =>
          obtain rfl := HV.out v rfl
          by_cases h4 : u < 4
          · have d1 : decide ((u : Int) < 4) = true := decide_eq_true (by omega)
            have d1n : decide (u < 4) = true := decide_eq_true h4
            have HR : Hid (regN [114, b] = some u) := Lib.hid (by rw [HRT.out]; exact if_pos h4)
            clear HV HRT
            go_wp2
            go_meet
            exact ⟨u, true, rfl, rfl, Lib.hid (HF2.out.later (by repeat (first | exact Below.refl _ _ | assumption | (refine below_drewN ?_ _) | (refine Below.drew ?_) | (refine Below.alloc ?_ (by first | omega | (simp; omega) | simp) _) | (refine Below.setCell ?_ (by first | omega | (simp; omega) | simp) _) | (refine below_trans ?_ (by assumption) (by first | omega | (simp; omega) | simp))))), hu, Lib.hid (fun h => by cases h), Lib.hid (fun _ => HR.out)⟩
          · have d1 : decide ((u : Int) < 4) = false := decide_eq_false (by omega)
            have d1n : decide (u < 4) = false := decide_eq_false h4
            have HR : Hid (regN [114, b] = none) := Lib.hid (by rw [HRT.out]; exact if_neg h4)
            clear HV HRT
            go_wp2
            go_meet
            exact ⟨u, false, rfl, rfl, Lib.hid (HF2.out.later (by repeat (first | exact Below.refl _ _ | assumption | (refine below_drewN ?_ _) | (refine Below.drew ?_) | (refine Below.alloc ?_ (by first | omega | (simp; omega) | simp) _) | (refine Below.setCell ?_ (by first | omega | (simp; omega) | simp) _) | (refine below_trans ?_ (by assumption) (by first | omega | (simp; omega) | simp))))), hu, Lib.hid (fun _ => HR.out), Lib.hid (fun h => by cases h)⟩
    case rest =>
      clear HFB HB0 HB1
      obtain ⟨r, q, rfl, rfl, HFB, hr64, HQ0, HQ1⟩ := hcut
      have gx := HFB.out.a.lt
      go_wp2_with fail
      go_at_call 72
      refine (HN2.out _).mono ?_
      rintro e w2 ⟨⟨u, hu, rfl, hv⟩, hb_w2⟩
      have hs2 := hb_w2.size
      have HV := Lib.hid hv
      have HF2 := HFB.out.later hb_w2
      have ga := HF2.a.lt
      have gb := HF2.b.lt
      have HNS : Hid (∀ o, isR o = false → fillO o l x = match numE l with | none => none | some u => if (u : Int) ≤ mostO o 0 then some (putO o u x) else none) := Lib.hid (fun o h => fill_num h l x)
      have HRS : Hid (∀ o, isR o = true → fillO o l x = (regN l).map fun u => putO o u x) := Lib.hid (fun o h => fill_reg h l x)
      clear hv HN2 HFB hl
      obtain ⟨c0, c1, c2, c3, c4, c5, c6, c7, c8, c9, c10⟩ := id HF2.a
      obtain ⟨z0, z1, z2, z3, z4, z5, z6, z7, z8, z9, z10⟩ := id HF2.b
      simp only [Nat.zero_add] at c0 c1 c2 c3 c4 c5 c6 c7 c8 c9 c10 z0 z1 z2 z3 z4 z5 z6 z7 z8 z9 z10
      have fa0 := HF2.fa 0
      have fb0 := HF2.fb 0
      have fa1 := HF2.fa 1
      have fb1 := HF2.fb 1
      have fa2 := HF2.fa 2
      have fb2 := HF2.fb 2
      have fa3 := HF2.fa 3
      have fb3 := HF2.fb 3
      have fa4 := HF2.fa 4
      have fb4 := HF2.fb 4
      have fa5 := HF2.fa 5
      have fb5 := HF2.fb 5
      have fa6 := HF2.fa 6
      have fb6 := HF2.fb 6
      have fa7 := HF2.fa 7
      have fb7 := HF2.fb 7
      have fa8 := HF2.fa 8
      have fb8 := HF2.fb 8
      have fa9 := HF2.fa 9
      have fb9 := HF2.fb 9
      have fa10 := HF2.fa 10
      have fb10 := HF2.fb 10
      have HF := Lib.hid HF2
      have HP := Lib.hid (fb_put8 HF2 (i64 r))
      clear HF2
      have hi : IntKind.i64.wrap (r : Int) = i64 r := rfl
      go_wp2
      refine bodyPost_ret (res_in2 rfl rfl (In11.set11 (⟨x.kd, x.op, x.oa, x.ob, x.fd, x.n, x.m, x.w, x.a, i64 r, x.to⟩ : In) HP.out.b)) rfl ⟨⟨(⟨x.kd, x.op, x.oa, x.ob, x.fd, x.n, x.m, x.w, x.a, i64 r, x.to⟩ : In), q, rfl, fun h => ?_, fun h => ?_⟩, below_set11 (⟨x.kd, x.op, x.oa, x.ob, x.fd, x.n, x.m, x.w, x.a, i64 r, x.to⟩ : In) HP.out.below (by omega)⟩
      · rw [HRS.out 8 rfl, HQ1.out h]
        have h4 := reg_lt (HQ1.out h)
        rw [i64_small (show r < 9223372036854775808 by omega)]
        rfl
      · rw [HRS.out 8 rfl, HQ0.out h]; rfl
end
end Go.Proofs.YtggaijdbaplfiaaGreatDoor
