/- Sets of events; contracts of package script: Steps. The numbers of the types map[api.Event]struct{} and struct{} are this seat's. -/
import Derived.Test.YtklbamkafldagaaDoorSe18
import Derived.Maps.OwnSet
namespace Go.Proofs.YtklbamkafldagaaDoor
open Go.RowKit
set_option linter.unusedVariables false
set_option linter.unusedSimpArgs false

set_option maxRecDepth 100000
/-- what events' keys read as -/
def KyOk (ky : Ev → Lit) : Prop := ∀ e, WfE e → keyOf Tryd.prog 41 (evv e) = some (ky e)
theorem ky_ex : ∃ ky, KyOk ky := ⟨fun e => (keyOf Tryd.prog 41 (evv e)).getD (.string []), fun e h => by
  obtain ⟨kl, hk⟩ := keyEv h
  simp only [hk, Option.getD_some]⟩
theorem evv_inj {x y : Ev} (h : evv x = evv y) : x = y := by
  unfold evv at h
  simp only [Value.agg.injEq, Array.mk.injEq, List.cons.injEq, Value.bool.injEq, Value.int.injEq, true_and, and_true] at h
  exact (Ev.ext_iff5 x y).2 ⟨h.1, h.2.1, h.2.2.1, h.2.2.2.1, h.2.2.2.2⟩
theorem KyOk.inj {ky : Ev → Lit} (K : KyOk ky) {x y : Ev} (hx : WfE x) (hy : WfE y) (h : ky x = ky y) : x = y := evv_inj (ekey.inj (K x hx) (by rw [h]; exact K y hy))
theorem KyOk.lit {ky : Ev → Lit} (K : KyOk ky) {e : Ev} (h : WfE e) : WideAt.IsKeyLit (ky e) := ekey.key (K e h)
def esetD (ky : Ev → Lit) (ks : List Ev) : DataW Unit := Maps.setOf (.agg []) (ks.map ky)
def AllWf (ks : List Ev) : Prop := ∀ e ∈ ks, WfE e
theorem AllWf.ones {l : List Ev} (h : AllWf l) : AllWf (l.map one) := fun e he => by
  rw [List.mem_map] at he
  obtain ⟨x, hx, rfl⟩ := he
  exact (h x hx).one
theorem eset_has {ky : Ev → Lit} (K : KyOk ky) {ks : List Ev} (h : AllWf ks) {x : Ev} (hx : WfE x) : Maps.has (esetD ky ks) (ky x) = decide (x ∈ ks) := by
  unfold esetD
  rw [Maps.has_setOf _ _ _ (fun y hy => by
    rw [List.mem_map] at hy
    obtain ⟨e, he, rfl⟩ := hy
    exact K.lit (h e he)), Bool.eq_iff_iff, List.any_eq_true]
  simp only [List.mem_map, decide_eq_true_eq]
  constructor
  · rintro ⟨_, ⟨e, he, rfl⟩, hs⟩
    have := K.inj (h e he) hx (WideAt.sameKey_eq hs)
    subst this; exact he
  · intro hm
    exact ⟨_, ⟨x, hm, rfl⟩, WideAt.sameKey_self (K.lit hx)⟩
theorem eset_snoc (ky : Ev → Lit) (ks : List Ev) (x : Ev) : esetD ky (ks ++ [x]) = (esetD ky ks).put (ky x) (.agg []) := by
  unfold esetD
  rw [List.map_append, List.map_cons, List.map_nil, Maps.setOf_snoc]
def SetE (w : World) (M : Nat) (ks : List Ev) : Prop := ∃ ky, KyOk ky ∧ w.ownsMap Tryd.prog 41 (unitElem (H := Unit)) M ks.length (esetD ky ks)
theorem SetE.later {w w' : World} {M : Nat} {ks : List Ev} (h : SetE w M ks) (hb : Below w.heap.size w w') : SetE w' M ks := by
  obtain ⟨ky, K, h⟩ := h
  exact ⟨ky, K, World.ownsMap.kept (row := none) h ⟨hb.os, hb.tape, hb.output, hb.size, fun k hk _ => hb.block k hk⟩ (by simp)⟩
theorem SetE.lt {w : World} {M : Nat} {ks : List Ev} (h : SetE w M ks) : M < w.heap.size := by
  obtain ⟨ky, K, h⟩ := h
  exact World.ownsMap.lt h
theorem SetE.made (w : World) : SetE (w.alloc (.map #[] 0)) w.heap.size [] := by
  obtain ⟨ky, K⟩ := ky_ex
  exact ⟨ky, K, World.ownsMap_made _ _ _ _⟩
theorem set_ty : Tryd.prog.underlying 64 = some (.map 41 65) := Tryd.underlying64
theorem zero65 (w : World) : (zeroValue 65).run Tryd.prog w = .ok (.agg #[]) w := by kernel_rfl
theorem SetE.up {w : World} {M : Nat} {ks : List Ev} (h : SetE w M ks) (hl : ks.length < 140737488355328) {x : Ev} (hx : WfE x) :
    ∃ w', (Instr.mapUpdate 64 (.map (some M)) (evv x) (.agg #[])).run Tryd.prog w = .ok () w' ∧ SetE w' M (ks ++ [x]) ∧ w.grownBy w' (some M) := by
  obtain ⟨ky, K, h⟩ := h
  obtain ⟨w', h1, h2, h3⟩ := World.ownsMap.update h ekey set_ty (by unfold maxLen; omega) (K x hx) (unitElem_mk (H := Unit))
  refine ⟨w', h1, ⟨ky, K, ?_⟩, h3⟩
  rw [eset_snoc, List.length_append, List.length_singleton]
  exact h2
theorem SetE.look {w : World} {M : Nat} {ks : List Ev} (h : SetE w M ks) (hk : AllWf ks) {x : Ev} (hx : WfE x) :
    (Instr.lookup 64 (.map (some M)) (evv x) true).run Tryd.prog w = .ok (.tuple #[.agg #[], .bool (decide (x ∈ ks))]) w := by
  obtain ⟨ky, K, h⟩ := h
  obtain ⟨v, ps, h1, h2⟩ := World.ownsMap.look_ok h ekey set_ty (zero65 w) (unitElem_mk (H := Unit)) (K x hx)
  rw [eset_has K hk hx] at h1
  rw [h1, (unitElem_inv h2).1]
def StpR (w : World) (n y : Int) (r : Ending) (w' : World) : Prop := r = .returned (.tuple #[.int .i64 n, .int .i64 y]) ∧ Below w.heap.size w w'
theorem ones_next {of : List Ev} {k : Nat} (hk : k < of.length) : (of.take (k + 1)).map one = (of.take k).map one ++ [one (nthE of k)] := by
  rw [take_nthE of k hk, List.map_append]
  rfl
theorem steps_next {l of : List Ev} {k : Nat} (hk : k < l.length) : stepsO (l.take (k + 1)) of = if askd of (nthE l k) then stepsO (l.take k) of + (nthE l k).n else stepsO (l.take k) of := by
  rw [take_nthE l k hk, stepsO_snoc]
section
variable {w : World}
set_option maxRecDepth 100000 in
set_option maxHeartbeats 8000000 in
theorem steps_any {A C : Option Addr} {l of : List Ev} (cap cc : Nat) (hr : ERow w w.heap.size A l) (ho : ERow w w.heap.size C of) (hl : l.length ≤ 17592186044416) (hol : of.length ≤ 17592186044416) (hwf : AllWf of) (n y : Int) (hy : (OkL l ∧ n = stepsO l of ∧ y = 0) ∨ (¬ OkL l ∧ n = 0 ∧ y = 2)) :
    Calls Tryd.prog 18 #[.slice A l.length cap, .slice C of.length cc] w fun e w' => StpR w n y e w' := by
  unfold StpR
  rcases hy with ⟨hok, rfl, rfl⟩ | ⟨hok, rfl, rfl⟩
  · have HC := Lib.hid fun (w : World) hr => check_any (w := w) (A := A) (l := l) cap hr hl 0 (.inl ⟨hok, rfl⟩)
    have hA : OkA l := hok.2
    have h4096 := hok.1
    have hmm := @run_makeMap Tryd.prog
    clear hok
    go_enter Tryd.func18, Tryd.ntmps18
    go_wp2_with fail
    go_at_call 20
    refine (HC.out _ (hr.later (by repeat (first | exact Below.refl _ _ | assumption | (refine below_drewN ?_ _) | (refine Below.drew ?_) | (refine Below.alloc ?_ (by first | omega | (simp; omega) | simp) _) | (refine Below.setCell ?_ (by first | omega | (simp; omega) | simp) _) | (refine below_trans ?_ (by assumption) (by first | omega | (simp; omega) | simp)))))).mono ?_
    rintro e w1 ⟨rfl, hb_w1⟩
    obtain ⟨hc_w1, hf_w1⟩ := bcell hb_w1; have hs_w1 := hb_w1.size; (try simp only [World.size_alloc, World.size_setCell, World.size_drew, World.heap_drewN] at hs_w1)
    have hr1 := hr.later hb_w1
    have ho1 := ho.later hb_w1
    have hs01 := hb_w1.size
    have m1 : SetE (w1.alloc (.map #[] 0)) w1.heap.size [] := SetE.made w1
    go_wp2_with fail
    go_loopw [23] (fun ii wr => ∃ k : Nat, ii = .int .i64 (k : Nat) ∧ k ≤ of.length ∧ SetE wr w1.heap.size ((of.take k).map one) ∧ Below w1.heap.size w1 wr) (fun ii _ => of.length - (intOf ii).toNat)
    case atStart => exact ⟨0, rfl, Nat.zero_le _, m1, (by repeat (first | exact Below.refl _ _ | assumption | (refine below_drewN ?_ _) | (refine Below.drew ?_) | (refine Below.alloc ?_ (by first | omega | (simp; omega) | simp) _) | (refine Below.setCell ?_ (by first | omega | (simp; omega) | simp) _) | (refine below_trans ?_ (by assumption) (by first | omega | (simp; omega) | simp))))⟩
    case round =>
      clear m1
      obtain ⟨k, rfl, hk, om, hb_wr⟩ := hrel
      have hsr := hb_wr.size
      have OM := Lib.hid om
      have hMlt := om.lt
      clear om
      by_cases hlt : k < of.length
      · obtain ⟨b, off, rfl, hbb, hc⟩ := (ho1.later hb_wr).at_ (by omega)
        have c5 := hc k hlt
        clear hc
        have hwk := (hwf _ (nthE_mem of k hlt)).one
        have HON := Lib.hid (ones_next hlt)
        have hk0 : (0 : Int) ≤ (k : Int) := by omega
        have hk1 : (k : Int) < (of.length : Int) := by omega
        have HUP := Lib.hid fun (W : World) (h : SetE W w1.heap.size ((of.take k).map one)) => h.up (x := one (nthE of k)) (by rw [List.length_map, List.length_take]; omega) hwk
        clear hwk
        generalize nthE of k = d at *
        obtain ⟨ea, eb, ec, ed, en⟩ := d
        obtain ⟨c0, c1, c2, c3, c4⟩ := c5
        simp only at c0 c1 c2 c3 c4
        unfold evv one at HUP
        simp only at HUP
        go_wp2_with fail
        go_at_call 32
        refine (single_agg _ _ _ _ _).mono ?_
        rintro e w2 ⟨rfl, hb_w2⟩
        obtain ⟨hc_w2, hf_w2⟩ := bcell hb_w2; have hz_w2_wr_0 : wr.heap.size < w2.heap.size := (by have hzz := hb_w2.size; (try simp only [World.size_alloc, World.size_setCell, World.size_drew, World.heap_drewN] at hzz); omega); have hs_w2 := hb_w2.size; (try simp only [World.size_alloc, World.size_setCell, World.size_drew, World.heap_drewN] at hs_w2)
        obtain ⟨w4, hrun, OM4, hgr4⟩ := HUP.out w2 (OM.out.later (show Below wr.heap.size wr w2 from (by repeat (first | exact Below.refl _ _ | assumption | (refine below_drewN ?_ _) | (refine Below.drew ?_) | (refine Below.alloc ?_ (by first | omega | (simp; omega) | simp) _) | (refine Below.setCell ?_ (by first | omega | (simp; omega) | simp) _) | (refine below_trans ?_ (by assumption) (by first | omega | (simp; omega) | simp))))))
        have HO4 := Lib.hid OM4
        have HB4 := Lib.hid ((show Below w1.heap.size w1 w2 from (by repeat (first | exact Below.refl _ _ | assumption | (refine below_drewN ?_ _) | (refine Below.drew ?_) | (refine Below.alloc ?_ (by first | omega | (simp; omega) | simp) _) | (refine Below.setCell ?_ (by first | omega | (simp; omega) | simp) _) | (refine below_trans ?_ (by assumption) (by first | omega | (simp; omega) | simp))))).grown hgr4 (by omega) (fun k9 hk9 => by simp only [Option.some.injEq] at hk9; omega))
        clear OM4 hgr4
        go_wp2
        go_roundw
        case rel => exact ⟨k + 1, by go_num, by omega, by rw [HON.out]; exact HO4.out, HB4.out⟩
        case measure => simp [intOf]; omega
      · obtain rfl : k = of.length := by omega
        rw [List.take_length] at OM
        have hrr := hr1.later hb_wr
        have hb0 : Below w.heap.size w wr := (by repeat (first | exact Below.refl _ _ | assumption | (refine below_drewN ?_ _) | (refine Below.drew ?_) | (refine Below.alloc ?_ (by first | omega | (simp; omega) | simp) _) | (refine Below.setCell ?_ (by first | omega | (simp; omega) | simp) _) | (refine below_trans ?_ (by assumption) (by first | omega | (simp; omega) | simp))))
        have hs0 := hb0.size
        have hwo := hwf.ones
        have hnil : Hid (((of.length : Int) == 0) = decide (of = [])) := Lib.hid (by
          rw [Bool.eq_iff_iff]
          simp only [beq_iff_eq, decide_eq_true_eq]
          constructor
          · intro h; exact List.eq_nil_of_length_eq_zero (by omega)
          · rintro rfl; rfl)
        go_wp2_with fail
        generalize wr = wA at *
        go_loopw [10, 34] (fun ss ii wr => ∃ k : Nat, ii = .int .i64 (k : Nat) ∧ k ≤ l.length ∧ ss = .int .i64 (stepsO (l.take k) of) ∧ Below wA.heap.size wA wr) (fun ss ii _ => l.length - (intOf ii).toNat)
        case atStart => exact ⟨0, rfl, Nat.zero_le _, rfl, (by repeat (first | exact Below.refl _ _ | assumption | (refine below_drewN ?_ _) | (refine Below.drew ?_) | (refine Below.alloc ?_ (by first | omega | (simp; omega) | simp) _) | (refine Below.setCell ?_ (by first | omega | (simp; omega) | simp) _) | (refine below_trans ?_ (by assumption) (by first | omega | (simp; omega) | simp))))⟩
        case round =>
          obtain ⟨k, rfl, hk, rfl, hb_wr2⟩ := hrel
          have hsr2 := hb_wr2.size
          by_cases hlt : k < l.length
          · obtain ⟨b, off, rfl, hbb, hc⟩ := (hrr.later hb_wr2).at_ (by omega)
            have c5 := hc k hlt
            clear hc
            have he := hA _ (nthE_mem l k hlt)
            have hw1 := okE_wf1 he
            have HSN := Lib.hid (steps_next (of := of) hlt)
            obtain ⟨S0, S1⟩ := stepsO_le of (hA.take k)
            rw [List.length_take] at S1
            obtain ⟨n1, n2, _⟩ := (okE_iff _).1 he
            have hk0 : (0 : Int) ≤ (k : Int) := by omega
            have hk1 : (k : Int) < (l.length : Int) := by omega
            have HLK := Lib.hid fun (W : World) (h : SetE W w1.heap.size (of.map one)) => h.look hwo hw1
            have HAS : Hid (askd of (nthE l k) = (decide (one (nthE l k) ∈ of.map one) || decide (of = []))) := Lib.hid (by
              unfold askd
              rw [Bool.eq_iff_iff]
              simp only [decide_eq_true_eq, Bool.or_eq_true]
              exact or_comm)
            clear hw1 he
            generalize nthE l k = d at *
            obtain ⟨ea, eb, ec, ed, en⟩ := d
            obtain ⟨c0, c1, c2, c3, c4⟩ := c5
            simp only at c0 c1 c2 c3 c4 n1 n2
            have zs : IntKind.i64.wrap (stepsO (l.take k) of + en) = stepsO (l.take k) of + en := by unfold IntKind.wrap; simp [IntKind.signed, IntKind.bits]; omega
            have HSN2 := HSN.out
            rw [HAS.out] at HSN2
            simp only at HSN2
            generalize stepsO (l.take k) of = S at *
            unfold evv at HLK
            generalize hdec : decide (one ⟨ea, eb, ec, ed, en⟩ ∈ of.map one) = q at *
            unfold one at HLK
            simp only at HLK
            clear HSN HAS hdec
            generalize hde2 : decide (of = []) = q2 at *
            clear hde2 S0 S1 n1 n2
            have HX := Lib.hid HSN2
            clear HSN2
            go_wp2_with fail
            go_at_call 32
            refine (single_agg _ _ _ _ _).mono ?_
            rintro e w2 ⟨rfl, hb_w2⟩
            obtain ⟨hc_w2, hf_w2⟩ := bcell hb_w2; have hz_w2_wr_0 : wr.heap.size < w2.heap.size := (by have hzz := hb_w2.size; (try simp only [World.size_alloc, World.size_setCell, World.size_drew, World.heap_drewN] at hzz); omega); have hs_w2 := hb_w2.size; (try simp only [World.size_alloc, World.size_setCell, World.size_drew, World.heap_drewN] at hs_w2)
            have hlk := HLK.out w2 ((OM.out.later hb_wr2).later (show Below wr.heap.size wr w2 from (by repeat (first | exact Below.refl _ _ | assumption | (refine below_drewN ?_ _) | (refine Below.drew ?_) | (refine Below.alloc ?_ (by first | omega | (simp; omega) | simp) _) | (refine Below.setCell ?_ (by first | omega | (simp; omega) | simp) _) | (refine below_trans ?_ (by assumption) (by first | omega | (simp; omega) | simp))))))
            have hnl := hnil.out
            cases q with
            | true =>
              have hx9 := HX.out
              simp only [Bool.true_or, if_true] at hx9
              have HX9 := Lib.hid hx9
              clear hx9 HX
              go_wp2
              go_roundw
              case rel => exact ⟨k + 1, by go_num, by omega, by rw [HX9.out], (by repeat (first | exact Below.refl _ _ | assumption | (refine below_drewN ?_ _) | (refine Below.drew ?_) | (refine Below.alloc ?_ (by first | omega | (simp; omega) | simp) _) | (refine Below.setCell ?_ (by first | omega | (simp; omega) | simp) _) | (refine below_trans ?_ (by assumption) (by first | omega | (simp; omega) | simp))))⟩
              case measure => simp [intOf]; omega
            | false =>
              cases q2 with
              | true =>
                have hx9 := HX.out
                simp only [Bool.or_true, if_true] at hx9
                have HX9 := Lib.hid hx9
                clear hx9 HX
                go_wp2
                go_roundw
                case rel => exact ⟨k + 1, by go_num, by omega, by rw [HX9.out], (by repeat (first | exact Below.refl _ _ | assumption | (refine below_drewN ?_ _) | (refine Below.drew ?_) | (refine Below.alloc ?_ (by first | omega | (simp; omega) | simp) _) | (refine Below.setCell ?_ (by first | omega | (simp; omega) | simp) _) | (refine below_trans ?_ (by assumption) (by first | omega | (simp; omega) | simp))))⟩
                case measure => simp [intOf]; omega
              | false =>
                have hx9 := HX.out
                simp only [Bool.or_false, Bool.false_eq_true, if_false] at hx9
                have HX9 := Lib.hid hx9
                clear hx9 HX
                go_wp2
                go_roundw
                case rel => exact ⟨k + 1, by go_num, by omega, by rw [HX9.out], (by repeat (first | exact Below.refl _ _ | assumption | (refine below_drewN ?_ _) | (refine Below.drew ?_) | (refine Below.alloc ?_ (by first | omega | (simp; omega) | simp) _) | (refine Below.setCell ?_ (by first | omega | (simp; omega) | simp) _) | (refine below_trans ?_ (by assumption) (by first | omega | (simp; omega) | simp))))⟩
                case measure => simp [intOf]; omega
          · obtain rfl : k = l.length := by omega
            rw [List.take_length]
            go_wp2
            go_ret2
            exact ⟨rfl, below_trans hb0 hb_wr2 (by omega)⟩
  · have HC := Lib.hid fun (w : World) hr => check_any (w := w) (A := A) (l := l) cap hr hl 2 (.inr ⟨hok, rfl⟩)
    clear hok
    go_enter Tryd.func18, Tryd.ntmps18
    go_wp2_with fail
    go_at_call 20
    refine (HC.out _ (hr.later (by repeat (first | exact Below.refl _ _ | assumption | (refine below_drewN ?_ _) | (refine Below.drew ?_) | (refine Below.alloc ?_ (by first | omega | (simp; omega) | simp) _) | (refine Below.setCell ?_ (by first | omega | (simp; omega) | simp) _) | (refine below_trans ?_ (by assumption) (by first | omega | (simp; omega) | simp)))))).mono ?_
    rintro e w1 ⟨rfl, hb_w1⟩
    obtain ⟨hc_w1, hf_w1⟩ := bcell hb_w1; have hs_w1 := hb_w1.size; (try simp only [World.size_alloc, World.size_setCell, World.size_drew, World.heap_drewN] at hs_w1)
    go_wp2
    go_ret2
    exact ⟨rfl, (by repeat (first | exact Below.refl _ _ | assumption | (refine below_drewN ?_ _) | (refine Below.drew ?_) | (refine Below.alloc ?_ (by first | omega | (simp; omega) | simp) _) | (refine Below.setCell ?_ (by first | omega | (simp; omega) | simp) _) | (refine below_trans ?_ (by assumption) (by first | omega | (simp; omega) | simp))))⟩
end
end Go.Proofs.YtklbamkafldagaaDoor
