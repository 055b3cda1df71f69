/- Contracts of the document's package: like, Steps. -/
import Derived.Test.YtklbamkafldagaaDoorSe27
namespace Go.Proofs.YtklbamkafldagaaDoor
open Go.RowKit
set_option linter.unusedVariables false
set_option linter.unusedSimpArgs false
theorem eql_agg (a b : Bool) (a2 b2 a3 b3 a4 b4 a5 b5 : Int) (w : World) (r : Bool) (hr : r = true ↔ (⟨a, a2, a3, a4, a5⟩ : Ev) = ⟨b, b2, b3, b4, b5⟩) : (binOp .eql 41 (.agg #[.bool a, .int .i64 a2, .int .u8 a3, .int .i64 a4, .int .i64 a5]) (.agg #[.bool b, .int .i64 b2, .int .u8 b3, .int .i64 b4, .int .i64 b5])).run Tryd.prog w = .ok (.bool r) w := by
  have h := eqlE.1 ⟨a, a2, a3, a4, a5⟩ ⟨b, b2, b3, b4, b5⟩ w
  have e : decide ((⟨a, a2, a3, a4, a5⟩ : Ev) = ⟨b, b2, b3, b4, b5⟩) = r := by
    cases r
    · simpa using hr
    · simpa using hr
  change _ = Result.ok (Value.bool (decide ((⟨a, a2, a3, a4, a5⟩ : Ev) = ⟨b, b2, b3, b4, b5⟩))) w at h
  rw [e] at h
  exact h
/-- whether an event is asked for, some being looked at -/
def askN (of : List Ev) (e : Ev) (j : Nat) : Bool := decide (of = [] ∨ one e ∈ (of.take j).map one)
theorem askN_zero (of : List Ev) (e : Ev) : askN of e 0 = decide (of = []) := by unfold askN; simp
theorem askN_all (of : List Ev) (e : Ev) : askN of e of.length = askd of e := by unfold askN askd; rw [List.take_length]
theorem askN_next (of : List Ev) (e : Ev) (j : Nat) (hj : j < of.length) : askN of e (j + 1) = (askN of e j || decide (one e = one (nthE of j))) := by
  unfold askN
  rw [take_nthE of j hj, Bool.eq_iff_iff]
  simp only [List.map_append, List.map_cons, List.map_nil, List.mem_append, List.mem_singleton, decide_eq_true_eq, Bool.or_eq_true]
  exact or_assoc.symm
section
variable {w : World}
set_option maxRecDepth 100000 in
set_option maxHeartbeats 4000000 in
theorem xlike_any (a : Bool) (b c d n : Int) (a' : Bool) (b' c' d' n' : Int) (r : Bool) (hr : r = true ↔ one ⟨a, b, c, d, n⟩ = one ⟨a', b', c', d', n'⟩) :
    Calls Tryd.prog 31 #[.agg #[.bool a, .int .i64 b, .int .u8 c, .int .i64 d, .int .i64 n], .agg #[.bool a', .int .i64 b', .int .u8 c', .int .i64 d', .int .i64 n']] w fun e w' => e = .returned (.bool r) ∧ Below w.heap.size w w' := by
  have hgd : Tryd.prog.eqGuardType Tryd.prog.depth 41 = false := by kernel_rfl
  have heq := fun w => eql_agg a a' b b' c c' d d' n' n' w r (by
    rw [hr]
    simp [one])
  clear hr
  go_enter Tryd.func31, Tryd.ntmps31
  go_wp2
  go_ret
  exact ⟨rfl, (by repeat (first | exact Below.refl _ _ | assumption | (refine below_drewN ?_ _) | (refine Below.drew ?_) | (refine Below.alloc ?_ (by first | omega | (simp; omega) | simp) _) | (refine Below.setCell ?_ (by first | omega | (simp; omega) | simp) _) | (refine below_trans ?_ (by assumption) (by first | omega | (simp; omega) | simp))))⟩
set_option maxRecDepth 100000 in
set_option maxHeartbeats 8000000 in
theorem xsteps_any {A C : Option Addr} {l of : List Ev} (cap cc : Nat) (hr : ERow w w.heap.size A l) (ho : ERow w w.heap.size C of) (hl : l.length ≤ 17592186044416) (hol : of.length ≤ 17592186044416) (hk : ∀ e ∈ l, 0 ≤ e.k) (n y : Int) (hy : (OkL l ∧ n = stepsO l of ∧ y = 0) ∨ (¬ OkL l ∧ n = 0 ∧ y = 2)) :
    Calls Tryd.prog 19 #[.slice A l.length cap, .slice C of.length cc] w fun e w' => e = .returned (.tuple #[.int .i64 n, .int .i64 y]) ∧ Below w.heap.size w w' := by
  rcases hy with ⟨hok, rfl, rfl⟩ | ⟨hok, rfl, rfl⟩
  · have HC := Lib.hid fun (w : World) hr => xcheck_any (w := w) (A := A) (l := l) cap hr hl hk 0 (.inl ⟨hok, rfl⟩)
    have HA : Hid (OkA l) := Lib.hid hok.2
    have h4096 := hok.1
    clear hok hk
    go_enter Tryd.func19, Tryd.ntmps19
    go_wp2_with fail
    go_at_call 21
    refine (HC.out _ (hr.later (by repeat (first | exact Below.refl _ _ | assumption | (refine below_drewN ?_ _) | (refine Below.drew ?_) | (refine Below.alloc ?_ (by first | omega | (simp; omega) | simp) _) | (refine Below.setCell ?_ (by first | omega | (simp; omega) | simp) _) | (refine below_trans ?_ (by assumption) (by first | omega | (simp; omega) | simp)))))).mono ?_
    rintro e w1 ⟨rfl, hb_w1⟩
    obtain ⟨hc_w1, hf_w1⟩ := bcell hb_w1; have hs_w1 := hb_w1.size; (try simp only [World.size_alloc, World.size_setCell, World.size_drew, World.heap_drewN] at hs_w1)
    have hr1 := hr.later hb_w1
    have ho1 := ho.later hb_w1
    have hs01 := hb_w1.size
    go_wp2_with fail
    go_loopw [6, 17] (fun nn ii wr => ∃ k : Nat, ii = .int .i64 (k : Nat) ∧ k ≤ l.length ∧ nn = .int .i64 (stepsO (l.take k) of) ∧ Below w1.heap.size w1 wr) (fun nn ii _ => l.length - (intOf ii).toNat)
    case atStart => exact ⟨0, rfl, Nat.zero_le _, rfl, (by repeat (first | exact Below.refl _ _ | assumption | (refine below_drewN ?_ _) | (refine Below.drew ?_) | (refine Below.alloc ?_ (by first | omega | (simp; omega) | simp) _) | (refine Below.setCell ?_ (by first | omega | (simp; omega) | simp) _) | (refine below_trans ?_ (by assumption) (by first | omega | (simp; omega) | simp))))⟩
    case round =>
      obtain ⟨k, rfl, hk, rfl, hb_wr⟩ := hrel
      have hsr := hb_wr.size
      by_cases hlt : k < l.length
      · obtain ⟨b, off, rfl, hbb, hc⟩ := (hr1.later hb_wr).at_ (by omega)
        have c5 := hc k hlt
        clear hc
        have hk0 : (0 : Int) ≤ (k : Int) := by omega
        have hk1 : (k : Int) < (l.length : Int) := by omega
        have HSN := Lib.hid (stepsO_snoc (l.take k) of (nthE l k))
        rw [← take_nthE l k hlt] at HSN
        have hle := stepsO_le of (OkA.take HA.out k)
        have hen := (okE_iff _).1 (HA.out _ (nthE_mem l k hlt))
        have hl4 : (l.take k).length ≤ 4096 := by rw [List.length_take]; omega
        have HAN := Lib.hid fun j hj => askN_next of (nthE l k) j hj
        have HA0 := Lib.hid (askN_zero of (nthE l k))
        have HAA := Lib.hid (askN_all of (nthE l k))
        generalize nthE l k = d at *
        obtain ⟨ea, eb, ec, ed, en⟩ := d
        obtain ⟨c0, c1, c2, c3, c4⟩ := c5
        obtain ⟨n1, n2, _⟩ := hen
        simp only at c0 c1 c2 c3 c4 n1 n2 HSN
        have hnil : ((of.length : Int) == 0) = askN of ⟨ea, eb, ec, ed, en⟩ 0 := by
          rw [HA0.out, Bool.eq_iff_iff]
          simp only [beq_iff_eq, decide_eq_true_eq]
          constructor
          · intro h; exact List.eq_nil_of_length_eq_zero (by omega)
          · rintro rfl; rfl
        have hnil2 : (of.length == 0) = askN of ⟨ea, eb, ec, ed, en⟩ 0 := by
          rw [← hnil, Bool.eq_iff_iff]
          simp only [beq_iff_eq]
          omega
        clear HA0
        generalize stepsO (l.take k) of = S at *
        generalize hwr : wr = wA at *
        clear hwr
        have hsA := hb_wr.size
        have E0 := Ev5.new wA ⟨ea, eb, ec, ed, en⟩ 41
        go_wp2_with fail
        go_loopw [9, 26] (fun bb jj wr => ∃ j : Nat, jj = .int .i64 (j : Nat) ∧ j ≤ of.length ∧ bb = .bool (askN of ⟨ea, eb, ec, ed, en⟩ j) ∧ Ev5 wr wA.heap.size 0 ⟨ea, eb, ec, ed, en⟩ ∧ Below w1.heap.size w1 wr) (fun bb jj _ => of.length - (intOf jj).toNat)
        case atStart => exact ⟨0, rfl, Nat.zero_le _, rfl, E0, (by repeat (first | exact Below.refl _ _ | assumption | (refine below_drewN ?_ _) | (refine Below.drew ?_) | (refine Below.alloc ?_ (by first | omega | (simp; omega) | simp) _) | (refine Below.setCell ?_ (by first | omega | (simp; omega) | simp) _) | (refine below_trans ?_ (by assumption) (by first | omega | (simp; omega) | simp))))⟩
        case round =>
          clear E0 c0 c1 c2 c3 c4
          obtain ⟨j, rfl, hj, rfl, E1, hb_wr2⟩ := hrel
          have hsr2 := hb_wr2.size
          have hlt1 := E1.lt
          obtain ⟨c0, c1, c2, c3, c4⟩ := E1
          simp only [Nat.zero_add] at c0 c1 c2 c3 c4
          by_cases hjl : j < of.length
          · obtain ⟨b', off', rfl, hbb', hc'⟩ := (ho1.later hb_wr2).at_ (by omega)
            have d5 := hc' j hjl
            clear hc'
            have hj0 : (0 : Int) ≤ (j : Int) := by omega
            have hj1 : (j : Int) < (of.length : Int) := by omega
            have HJ := Lib.hid (HAN.out j hjl)
            generalize nthE of j = x at *
            obtain ⟨xa, xb, xc, xd, xn⟩ := x
            obtain ⟨q0, q1, q2, q3, q4⟩ := d5
            simp only at q0 q1 q2 q3 q4
            rcases hq : askN of ⟨ea, eb, ec, ed, en⟩ j with _ | _
            · rw [hq] at HJ
              have HLK := Lib.hid fun (w : World) => xlike_any (w := w) ea eb ec ed en xa xb xc xd xn (decide (one ⟨ea, eb, ec, ed, en⟩ = one ⟨xa, xb, xc, xd, xn⟩)) (by simp)
              rw [Bool.false_or] at HJ
              rw [← HJ.out] at HLK
              clear HJ hq
              generalize hrj : askN of ⟨ea, eb, ec, ed, en⟩ (j + 1) = rj at *
              have HRJ := Lib.hid hrj
              clear hrj
              go_wp2_with fail
              go_at_call 31
              refine (HLK.out _).mono ?_
              rintro e w3 ⟨rfl, hb_w3⟩
              obtain ⟨hc_w3, hf_w3⟩ := bcell hb_w3; have hz_w3_wr_0 : wr.heap.size < w3.heap.size := (by have hzz := hb_w3.size; (try simp only [World.size_alloc, World.size_setCell, World.size_drew, World.heap_drewN] at hzz); omega); have hs_w3 := hb_w3.size; (try simp only [World.size_alloc, World.size_setCell, World.size_drew, World.heap_drewN] at hs_w3)
              have E3 : Ev5 w3 wA.heap.size 0 ⟨ea, eb, ec, ed, en⟩ := Ev5.keep ⟨c0, c1, c2, c3, c4⟩ (fun o => (show Below wr.heap.size wr w3 from (by repeat (first | exact Below.refl _ _ | assumption | (refine below_drewN ?_ _) | (refine Below.drew ?_) | (refine Below.alloc ?_ (by first | omega | (simp; omega) | simp) _) | (refine Below.setCell ?_ (by first | omega | (simp; omega) | simp) _) | (refine below_trans ?_ (by assumption) (by first | omega | (simp; omega) | simp))))).cell (p := ⟨wA.heap.size, o, none⟩) (by first | omega | (simp; omega) | simp))
              have HE3 := Lib.hid E3
              clear E3
              go_wp2
              go_roundw
              case rel => exact ⟨j + 1, by go_num, by omega, by rw [HRJ.out], HE3.out, (by repeat (first | exact Below.refl _ _ | assumption | (refine below_drewN ?_ _) | (refine Below.drew ?_) | (refine Below.alloc ?_ (by first | omega | (simp; omega) | simp) _) | (refine Below.setCell ?_ (by first | omega | (simp; omega) | simp) _) | (refine below_trans ?_ (by assumption) (by first | omega | (simp; omega) | simp))))⟩
              case measure => simp [intOf]; omega
            · rw [hq, Bool.true_or] at HJ
              clear hq
              go_wp2
              go_roundw
              case rel => exact ⟨j + 1, by go_num, by omega, by rw [HJ.out], (by constructor <;> (simp only [Nat.zero_add]; first | assumption | (exact (World.cell?_alloc_lt _ _ ⟨_, _, _⟩ (by first | omega | (simp; omega) | simp)).trans (by assumption)))), (by repeat (first | exact Below.refl _ _ | assumption | (refine below_drewN ?_ _) | (refine Below.drew ?_) | (refine Below.alloc ?_ (by first | omega | (simp; omega) | simp) _) | (refine Below.setCell ?_ (by first | omega | (simp; omega) | simp) _) | (refine below_trans ?_ (by assumption) (by first | omega | (simp; omega) | simp))))⟩
              case measure => simp [intOf]; omega
          · obtain rfl : j = of.length := by omega
            rw [HAA.out]
            have hask : askN of ⟨ea, eb, ec, ed, en⟩ of.length = askd of ⟨ea, eb, ec, ed, en⟩ := HAA.out
            rcases hq : askd of ⟨ea, eb, ec, ed, en⟩ with _ | _
            · rw [hq] at HSN hask
              simp only [Bool.false_eq_true, if_false] at HSN
              clear hq
              go_wp2
              go_roundw
              case rel => exact ⟨k + 1, by go_num, by omega, by rw [HSN.out], (by repeat (first | exact Below.refl _ _ | assumption | (refine below_drewN ?_ _) | (refine Below.drew ?_) | (refine Below.alloc ?_ (by first | omega | (simp; omega) | simp) _) | (refine Below.setCell ?_ (by first | omega | (simp; omega) | simp) _) | (refine below_trans ?_ (by assumption) (by first | omega | (simp; omega) | simp))))⟩
              case measure => simp [intOf]; omega
            · rw [hq] at HSN hask
              simp only [if_true] at HSN
              clear hq
              go_wp2
              go_roundw
              case rel => exact ⟨k + 1, by go_num, by omega, by rw [HSN.out], (by repeat (first | exact Below.refl _ _ | assumption | (refine below_drewN ?_ _) | (refine Below.drew ?_) | (refine Below.alloc ?_ (by first | omega | (simp; omega) | simp) _) | (refine Below.setCell ?_ (by first | omega | (simp; omega) | simp) _) | (refine below_trans ?_ (by assumption) (by first | omega | (simp; omega) | simp))))⟩
              case measure => simp [intOf]; omega
      · obtain rfl : k = l.length := by omega
        rw [List.take_length]
        go_wp2
        go_ret2
        exact ⟨rfl, (by repeat (first | exact Below.refl _ _ | assumption | (refine below_drewN ?_ _) | (refine Below.drew ?_) | (refine Below.alloc ?_ (by first | omega | (simp; omega) | simp) _) | (refine Below.setCell ?_ (by first | omega | (simp; omega) | simp) _) | (refine below_trans ?_ (by assumption) (by first | omega | (simp; omega) | simp))))⟩
  · have HC := Lib.hid fun (w : World) hr => xcheck_any (w := w) (A := A) (l := l) cap hr hl hk 2 (.inr ⟨hok, rfl⟩)
    clear hok hk
    go_enter Tryd.func19, Tryd.ntmps19
    go_wp2_with fail
    go_at_call 21
    refine (HC.out _ (hr.later (by repeat (first | exact Below.refl _ _ | assumption | (refine below_drewN ?_ _) | (refine Below.drew ?_) | (refine Below.alloc ?_ (by first | omega | (simp; omega) | simp) _) | (refine Below.setCell ?_ (by first | omega | (simp; omega) | simp) _) | (refine below_trans ?_ (by assumption) (by first | omega | (simp; omega) | simp)))))).mono ?_
    rintro e w1 ⟨rfl, hb_w1⟩
    obtain ⟨hc_w1, hf_w1⟩ := bcell hb_w1; have hs_w1 := hb_w1.size; (try simp only [World.size_alloc, World.size_setCell, World.size_drew, World.heap_drewN] at hs_w1)
    go_wp2
    go_ret2
    exact ⟨rfl, (by repeat (first | exact Below.refl _ _ | assumption | (refine below_drewN ?_ _) | (refine Below.drew ?_) | (refine Below.alloc ?_ (by first | omega | (simp; omega) | simp) _) | (refine Below.setCell ?_ (by first | omega | (simp; omega) | simp) _) | (refine below_trans ?_ (by assumption) (by first | omega | (simp; omega) | simp))))⟩
end
end Go.Proofs.YtklbamkafldagaaDoor
