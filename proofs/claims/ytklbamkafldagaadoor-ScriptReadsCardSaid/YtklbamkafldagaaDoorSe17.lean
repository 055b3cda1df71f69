/- Contracts of package script: Fold; the document's Same. -/
import Derived.Test.YtklbamkafldagaaDoorSe16
import Derived.Deep.QuietTactic
import Derived.BigQuiet
namespace Go.Proofs.YtklbamkafldagaaDoor
open Go.RowKit
set_option linter.unusedVariables false
set_option linter.unusedSimpArgs false

/-- a list of its own, and an error -/
def LstR (w : World) (L : List Ev) (y : Int) (r : Ending) (w' : World) : Prop := ∃ A cap, r = .returned (.tuple #[.slice A L.length cap, .int .i64 y]) ∧ OwnsE w' w.heap.size (.slice A L.length cap) L ∧ Below w.heap.size w w'
theorem foldL_take {l : List Ev} (k : Nat) (hk : k < l.length) : foldL (l.take (k + 1)) = fold1 (foldL (l.take k)) (nthE l k) := by rw [take_nthE l k hk, foldL_snoc]
section
variable {w : World}
theorem fold_any (B : Nat) (hB : B ≤ w.heap.size) (out : List Ev) (ho : OkA out) (hl : out.length ≤ 4096) (A : Option Addr) (cap : Nat) (h : w.ownsRow B 41 5 (.slice A out.length cap) out.length (flatE out)) (e : Ev) (he : okE e = true) :
    Calls Tryd.prog 30 #[.slice A out.length cap, evv e] w fun r w' => FolR B w (fold1 out e) r w' := by
  rcases nil_or_snoc out with rfl | ⟨a, x, rfl⟩
  · exact fold_nil B hB A cap h e
  · have hlen : (a ++ [x]).length = a.length + 1 := by simp
    rw [hlen] at h hl ⊢
    obtain ⟨_, ⟨e9, h0⟩ | ⟨g, cap', cur, e9, _⟩⟩ := id h
    · omega
    · injection e9 with e1 _ e3
      subst e1 e3
      exact fold_some B hB a x e g cap a.length rfl h ho.last he (by omega)
theorem fold_agg (B : Nat) (hB : B ≤ w.heap.size) (out : List Ev) (ho : OkA out) (hl : out.length ≤ 4096) (A : Option Addr) (cap : Nat) (h : w.ownsRow B 41 5 (.slice A out.length cap) out.length (flatE out)) (a : Bool) (b c d n : Int) (he : okE ⟨a, b, c, d, n⟩ = true) :
    Calls Tryd.prog 30 #[.slice A out.length cap, .agg #[.bool a, .int .i64 b, .int .u8 c, .int .i64 d, .int .i64 n]] w fun r w' => FolR B w (fold1 out ⟨a, b, c, d, n⟩) r w' := fold_any B hB out ho hl A cap h ⟨a, b, c, d, n⟩ he
set_option maxHeartbeats 4000000 in
theorem scriptFold_any {A : Option Addr} {l : List Ev} (cap : Nat) (hr : ERow w w.heap.size A l) (hl : l.length ≤ 17592186044416) (L : List Ev) (y : Int) (hy : (OkL l ∧ L = foldL l ∧ y = 0) ∨ (¬ OkL l ∧ L = [] ∧ y = 2)) :
    Calls Tryd.prog 14 #[.slice A l.length cap] w fun e w' => LstR w L y e w' := by
  unfold LstR
  rcases hy with ⟨hok, rfl, rfl⟩ | ⟨hok, rfl, rfl⟩
  · have HC := Lib.hid fun (w : World) hr => check_any (w := w) (A := A) (l := l) cap hr hl 0 (.inl ⟨hok, rfl⟩)
    have hA : OkA l := hok.2
    have h4096 := hok.1
    clear hok
    go_enter Tryd.func14, Tryd.ntmps14
    go_wp2_with fail
    go_at_call 20
    refine (HC.out _ (hr.later (by repeat (first | exact Below.refl _ _ | assumption | (refine below_drewN ?_ _) | (refine Below.drew ?_) | (refine Below.alloc ?_ (by first | omega | (simp; omega) | simp) _) | (refine Below.setCell ?_ (by first | omega | (simp; omega) | simp) _) | (refine below_trans ?_ (by assumption) (by first | omega | (simp; omega) | simp)))))).mono ?_
    rintro e w1 ⟨rfl, hb_w1⟩
    obtain ⟨hc_w1, hf_w1⟩ := bcell hb_w1; have hs_w1 := hb_w1.size; (try simp only [World.size_alloc, World.size_setCell, World.size_drew, World.heap_drewN] at hs_w1)
    have hr1 := hr.later hb_w1
    have hs01 := hb_w1.size
    go_wp2_with fail
    go_loopw [5, 15] (fun ll ii wr => ∃ (k : Nat) (F : Option Addr) (fc : Nat), ii = .int .i64 (k : Nat) ∧ k ≤ l.length ∧ ll = .slice F (foldL (l.take k)).length fc ∧ wr.ownsRow w1.heap.size 41 5 (.slice F (foldL (l.take k)).length fc) (foldL (l.take k)).length (flatE (foldL (l.take k))) ∧ Below w1.heap.size w1 wr) (fun ll ii _ => l.length - (intOf ii).toNat)
    case atStart => exact ⟨0, none, 0, rfl, Nat.zero_le _, rfl, World.ownsRow_nil _ _ _ _, (by repeat (first | exact Below.refl _ _ | assumption | (refine below_drewN ?_ _) | (refine Below.drew ?_) | (refine Below.alloc ?_ (by first | omega | (simp; omega) | simp) _) | (refine Below.setCell ?_ (by first | omega | (simp; omega) | simp) _) | (refine below_trans ?_ (by assumption) (by first | omega | (simp; omega) | simp))))⟩
    case round =>
      obtain ⟨k, F, fc, rfl, hk, rfl, own, hb_wr⟩ := hrel
      have hsr := hb_wr.size
      have OW := Lib.hid own
      clear own
      by_cases hlt : k < l.length
      · obtain ⟨b, off, rfl, hbb, hc⟩ := (hr1.later hb_wr).at_ (by omega)
        have c5 := hc k hlt
        clear hc
        have he : okE (nthE l k) = true := hA _ (nthE_mem l k hlt)
        have HT := Lib.hid (foldL_take k hlt)
        have hoA : OkA (foldL (l.take k)) := okA_foldL (hA.take k)
        have hlen : (foldL (l.take k)).length ≤ 4096 := by
          have := length_foldL (l.take k)
          rw [List.length_take] at this
          omega
        have hk0 : (0 : Int) ≤ (k : Int) := by omega
        have hk1 : (k : Int) < (l.length : Int) := by omega
        generalize foldL (l.take k) = acc at *
        generalize nthE l k = d at *
        obtain ⟨ea, eb, ec, ed, en⟩ := d
        obtain ⟨c0, c1, c2, c3, c4⟩ := c5
        simp only at c0 c1 c2 c3 c4
        have HFO := Lib.hid fun (w' : World) (hB : w1.heap.size ≤ w'.heap.size) h => fold_agg (w := w') w1.heap.size hB acc hoA hlen F fc h ea eb ec ed en he
        clear hoA he hlen
        obtain ⟨an, hEan⟩ : ∃ an, Hid (acc.length = an) := ⟨_, Lib.hid rfl⟩
        go_wp2_with fail
        go_at_call 30
        refine (HFO.out _ (by simp; omega) (owns_laterE OW.out (show Below wr.heap.size wr _ from (by repeat (first | exact Below.refl _ _ | assumption | (refine below_drewN ?_ _) | (refine Below.drew ?_) | (refine Below.alloc ?_ (by first | omega | (simp; omega) | simp) _) | (refine Below.setCell ?_ (by first | omega | (simp; omega) | simp) _) | (refine below_trans ?_ (by assumption) (by first | omega | (simp; omega) | simp))))))).mono ?_
        rintro e w2 ⟨F2, fc2, rfl, own2, hb_w2⟩
        have hs2 := hb_w2.size
        (try simp only [World.size_alloc] at hs2)
        have HO2 := Lib.hid own2
        have HB2 := Lib.hid (show Below w1.heap.size w1 w2 from below_trans (show Below w1.heap.size w1 _ from (by repeat (first | exact Below.refl _ _ | assumption | (refine below_drewN ?_ _) | (refine Below.drew ?_) | (refine Below.alloc ?_ (by first | omega | (simp; omega) | simp) _) | (refine Below.setCell ?_ (by first | omega | (simp; omega) | simp) _) | (refine below_trans ?_ (by assumption) (by first | omega | (simp; omega) | simp))))) hb_w2 (Nat.le_refl _))
        clear own2 hb_w2
        go_wp2
        go_roundw
        case rel => exact ⟨k + 1, F2, fc2, by go_num, by omega, by rw [HT.out], by rw [HT.out]; exact HO2.out, HB2.out⟩
        case measure => simp [intOf]; omega
      · obtain rfl : k = l.length := by omega
        rw [List.take_length] at OW ⊢
        go_wp2
        go_ret2
        exact ⟨F, fc, rfl, owns_monoE OW.out hs01, (by repeat (first | exact Below.refl _ _ | assumption | (refine below_drewN ?_ _) | (refine Below.drew ?_) | (refine Below.alloc ?_ (by first | omega | (simp; omega) | simp) _) | (refine Below.setCell ?_ (by first | omega | (simp; omega) | simp) _) | (refine below_trans ?_ (by assumption) (by first | omega | (simp; omega) | simp))))⟩
  · have HC := Lib.hid fun (w : World) hr => check_any (w := w) (A := A) (l := l) cap hr hl 2 (.inr ⟨hok, rfl⟩)
    clear hok
    go_enter Tryd.func14, Tryd.ntmps14
    go_wp2_with fail
    go_at_call 20
    refine (HC.out _ (hr.later (by repeat (first | exact Below.refl _ _ | assumption | (refine below_drewN ?_ _) | (refine Below.drew ?_) | (refine Below.alloc ?_ (by first | omega | (simp; omega) | simp) _) | (refine Below.setCell ?_ (by first | omega | (simp; omega) | simp) _) | (refine below_trans ?_ (by assumption) (by first | omega | (simp; omega) | simp)))))).mono ?_
    rintro e w1 ⟨rfl, hb_w1⟩
    obtain ⟨hc_w1, hf_w1⟩ := bcell hb_w1; have hs_w1 := hb_w1.size; (try simp only [World.size_alloc, World.size_setCell, World.size_drew, World.heap_drewN] at hs_w1)
    go_wp2
    go_ret2
    exact ⟨none, 0, rfl, own_nilE _ _ 0, (by repeat (first | exact Below.refl _ _ | assumption | (refine below_drewN ?_ _) | (refine Below.drew ?_) | (refine Below.alloc ?_ (by first | omega | (simp; omega) | simp) _) | (refine Below.setCell ?_ (by first | omega | (simp; omega) | simp) _) | (refine below_trans ?_ (by assumption) (by first | omega | (simp; omega) | simp))))⟩
set_option maxRecDepth 100000 in
set_option maxHeartbeats 4000000 in
theorem same_any {A C : Option Addr} {l m : List Ev} (cap cc : Nat) (hr : ERow w w.heap.size A l) (hq : ERow w w.heap.size C m) (hl : l.length ≤ 17592186044416) (hm : m.length ≤ 17592186044416) (r : Bool) (hR : r = true ↔ l = m) :
    Calls Tryd.prog 11 #[.slice A l.length cap, .slice C m.length cc] w fun e w' => e = .returned (.bool r) ∧ Below w.heap.size w w' := by
  have HR := Lib.hid hR
  clear hR
  have hgd : Tryd.prog.eqGuardType Tryd.prog.depth 41 = false := by kernel_rfl
  by_cases hlm : l.length = m.length
  · have d1 : (l.length == m.length) = true := by simpa using hlm
    have HL := Lib.hid hlm
    generalize hn : m.length = n at *
    have HM := Lib.hid hn
    clear hn
    subst hlm
    go_enter Tryd.func11, Tryd.ntmps11
    go_wp2_with fail
    go_loopw [13] (fun ii wr => ∃ k : Nat, ii = .int .i64 (k : Nat) ∧ k ≤ l.length ∧ Hid (∀ j, j < k → nthE l j = nthE m j) ∧ Below w.heap.size w wr) (fun ii _ => l.length - (intOf ii).toNat)
    case atStart => exact ⟨0, rfl, Nat.zero_le _, Lib.hid (fun j hj => by omega), (by repeat (first | exact Below.refl _ _ | assumption | (refine below_drewN ?_ _) | (refine Below.drew ?_) | (refine Below.alloc ?_ (by first | omega | (simp; omega) | simp) _) | (refine Below.setCell ?_ (by first | omega | (simp; omega) | simp) _) | (refine below_trans ?_ (by assumption) (by first | omega | (simp; omega) | simp))))⟩
    case round =>
      obtain ⟨k, rfl, hk, HA, hb_wr⟩ := hrel
      by_cases hlt : k < l.length
      · obtain ⟨b, off, rfl, hbb, hc⟩ := (hr.later hb_wr).at_ (by omega)
        obtain ⟨b', off', rfl, hbb', hc'⟩ := (hq.later hb_wr).at_ (by have := HM.out; omega)
        have c5 := hc k hlt
        have d5 := hc' k (by have := HM.out; omega)
        clear hc hc'
        obtain ⟨x, hx⟩ : ∃ x, Hid (nthE l k = x) := ⟨_, Lib.hid rfl⟩
        obtain ⟨y, hy⟩ : ∃ y, Hid (nthE m k = y) := ⟨_, Lib.hid rfl⟩
        rw [hx.out] at c5
        rw [hy.out] at d5
        obtain ⟨x1, x2, x3, x4, x5⟩ := x
        obtain ⟨y1, y2, y3, y4, y5⟩ := y
        obtain ⟨c0, c1, c2, c3, c4⟩ := c5
        obtain ⟨q0, q1, q2, q3, q4⟩ := d5
        simp only at c0 c1 c2 c3 c4 q0 q1 q2 q3 q4
        have hk0 : (0 : Int) ≤ (k : Int) := by omega
        have hk1 : (k : Int) < (l.length : Int) := by omega
        by_cases hxy : (⟨x1, x2, x3, x4, x5⟩ : Ev) = ⟨y1, y2, y3, y4, y5⟩
        · have hne := fun w => neq_agg x1 y1 x2 y2 x3 y3 x4 y4 x5 y5 w false ⟨fun _ => rfl, fun _ => hxy⟩
          have HN : Hid (∀ j, j < k + 1 → nthE l j = nthE m j) := Lib.hid fun j hj => by
            by_cases e : j = k
            · rw [e, hx.out, hy.out]; exact hxy
            · exact HA.out j (by omega)
          clear hxy
          go_wp2_with fail
          go_quiet (fail)
          go_wp2
          go_roundw
          case rel => exact ⟨k + 1, by go_num, by omega, HN, (by repeat (first | exact Below.refl _ _ | assumption | (refine below_drewN ?_ _) | (refine Below.drew ?_) | (refine Below.alloc ?_ (by first | omega | (simp; omega) | simp) _) | (refine Below.setCell ?_ (by first | omega | (simp; omega) | simp) _) | (refine below_trans ?_ (by assumption) (by first | omega | (simp; omega) | simp))))⟩
          case measure => simp [intOf]; omega
        · have hne := fun w => neq_agg x1 y1 x2 y2 x3 y3 x4 y4 x5 y5 w true ⟨fun h => absurd h hxy, fun h => by cases h⟩
          obtain rfl : r = false := by
            cases hr0 : r with
            | false => rfl
            | true =>
              have e := HR.out.1 hr0
              have e2 : nthE l k = nthE m k := by rw [e]
              rw [hx.out, hy.out] at e2
              exact absurd e2 hxy
          clear hxy
          go_wp2_with fail
          go_quiet (fail)
          go_wp2
          go_ret
          exact ⟨rfl, (by repeat (first | exact Below.refl _ _ | assumption | (refine below_drewN ?_ _) | (refine Below.drew ?_) | (refine Below.alloc ?_ (by first | omega | (simp; omega) | simp) _) | (refine Below.setCell ?_ (by first | omega | (simp; omega) | simp) _) | (refine below_trans ?_ (by assumption) (by first | omega | (simp; omega) | simp))))⟩
      · obtain rfl : k = l.length := by omega
        obtain rfl : r = true := HR.out.2 (eqE (by have := HM.out; omega) (HA.out))
        go_wp2
        go_ret
        exact ⟨rfl, (by repeat (first | exact Below.refl _ _ | assumption | (refine below_drewN ?_ _) | (refine Below.drew ?_) | (refine Below.alloc ?_ (by first | omega | (simp; omega) | simp) _) | (refine Below.setCell ?_ (by first | omega | (simp; omega) | simp) _) | (refine below_trans ?_ (by assumption) (by first | omega | (simp; omega) | simp))))⟩
  · have d1 : (l.length == m.length) = false := by simpa using hlm
    have d2 : ((l.length : Int) == (m.length : Int)) = false := by simp; omega
    obtain rfl : r = false := by
      cases hr0 : r with
      | false => rfl
      | true => exact absurd (by rw [HR.out.1 hr0]) hlm
    clear hlm
    generalize l.length = n1 at *
    generalize m.length = n2 at *
    go_enter Tryd.func11, Tryd.ntmps11
    go_wp2
    go_ret
    exact ⟨rfl, (by repeat (first | exact Below.refl _ _ | assumption | (refine below_drewN ?_ _) | (refine Below.drew ?_) | (refine Below.alloc ?_ (by first | omega | (simp; omega) | simp) _) | (refine Below.setCell ?_ (by first | omega | (simp; omega) | simp) _) | (refine below_trans ?_ (by assumption) (by first | omega | (simp; omega) | simp))))⟩
end
end Go.Proofs.YtklbamkafldagaaDoor
