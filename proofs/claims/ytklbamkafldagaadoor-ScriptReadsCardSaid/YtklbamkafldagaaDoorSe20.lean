/- Contracts of package script: Spread. -/
import Derived.Test.YtklbamkafldagaaDoorSe19
namespace Go.Proofs.YtklbamkafldagaaDoor
open Go.RowKit
set_option linter.unusedVariables false
set_option linter.unusedSimpArgs false

theorem spread_next {l : List Ev} {k : Nat} (hk : k < l.length) : spreadL (l.take (k + 1)) = spreadL (l.take k) ++ List.replicate (nthE l k).n.toNat (one (nthE l k)) := by rw [take_nthE l k hk, spreadL_snoc]
theorem spread_len {l : List Ev} (k : Nat) : (spreadL (l.take k)).length ≤ (spreadL l).length := by
  conv => rhs; rw [← List.take_append_drop k l]
  unfold spreadL
  rw [List.flatMap_append, List.length_append]
  omega
theorem rep_next (acc : List Ev) (x : Ev) (j : Nat) : flatE (acc ++ List.replicate j x) ++ flatE [x] = flatE (acc ++ List.replicate (j + 1) x) := by
  rw [← flatE_append, List.append_assoc, List.replicate_succ']
section
variable {w : World}
set_option maxRecDepth 100000 in
set_option maxHeartbeats 8000000 in
theorem spread_any {A : Option Addr} {l : List Ev} (cap : Nat) (hr : ERow w w.heap.size A l) (hl : l.length ≤ 17592186044416) (L : List Ev) (y : Int)
    (hy : (OkL l ∧ stepsL l ≤ 4096 ∧ L = spreadL l ∧ y = 0) ∨ (OkL l ∧ 4096 < stepsL l ∧ L = [] ∧ y = 6) ∨ (¬ OkL l ∧ L = [] ∧ y = 2)) :
    Calls Tryd.prog 16 #[.slice A l.length cap] w fun e w' => LstR w L y e w' := by
  unfold LstR
  rcases hy with ⟨hok, hst, rfl, rfl⟩ | ⟨hok, hst, rfl, rfl⟩ | ⟨hok, rfl, rfl⟩
  · have HS := Lib.hid fun (w : World) hr => steps_any (w := w) (A := A) (C := none) (l := l) (of := []) cap 0 hr (ERow.nil _ _ _) hl (by simp) (fun e he => by simp at he) (stepsL l) 0 (.inl ⟨hok, (stepsO_all l).symm, rfl⟩)
    simp only [List.length_nil] at HS
    have hA : OkA l := hok.2
    have hlen : ((spreadL l).length : Int) = stepsL l := length_spread hA
    have hlen2 : (spreadL l).length ≤ 4096 := by omega
    have HLN := Lib.hid fun k => Nat.le_trans (spread_len (l := l) k) hlen2
    have d1 : decide (4096 < stepsL l) = false := decide_eq_false (by omega)
    clear hok hlen hlen2 hst
    go_enter Tryd.func16, Tryd.ntmps16
    go_wp2_with fail
    go_at_call 18
    refine (HS.out _ (hr.later (by repeat (first | exact Below.refl _ _ | assumption | (refine below_drewN ?_ _) | (refine Below.drew ?_) | (refine Below.alloc ?_ (by first | omega | (simp; omega) | simp) _) | (refine Below.setCell ?_ (by first | omega | (simp; omega) | simp) _) | (refine below_trans ?_ (by assumption) (by first | omega | (simp; omega) | simp)))))).mono ?_
    rintro e w1 ⟨rfl, hb_w1⟩
    obtain ⟨hc_w1, hf_w1⟩ := bcell hb_w1; have hs_w1 := hb_w1.size; (try simp only [World.size_alloc, World.size_setCell, World.size_drew, World.heap_drewN] at hs_w1)
    have hr1 := hr.later hb_w1
    have hs01 := hb_w1.size
    go_wp2_with fail
    go_loopw [6, 21] (fun ll ii wr => ∃ (k : Nat) (F : Option Addr) (fc : Nat), ii = .int .i64 (k : Nat) ∧ k ≤ l.length ∧ ll = .slice F (spreadL (l.take k)).length fc ∧ wr.ownsRow w1.heap.size 41 5 (.slice F (spreadL (l.take k)).length fc) (spreadL (l.take k)).length (flatE (spreadL (l.take k))) ∧ Below w1.heap.size w1 wr) (fun ll ii _ => l.length - (intOf ii).toNat)
    case atStart => exact ⟨0, none, 0, rfl, Nat.zero_le _, rfl, World.ownsRow_nil _ _ _ _, (by repeat (first | exact Below.refl _ _ | assumption | (refine below_drewN ?_ _) | (refine Below.drew ?_) | (refine Below.alloc ?_ (by first | omega | (simp; omega) | simp) _) | (refine Below.setCell ?_ (by first | omega | (simp; omega) | simp) _) | (refine below_trans ?_ (by assumption) (by first | omega | (simp; omega) | simp))))⟩
    case round =>
      obtain ⟨k, F, fc, rfl, hk, rfl, own, hb_wr⟩ := hrel
      have hsr := hb_wr.size
      have OW := Lib.hid own
      clear own
      by_cases hlt : k < l.length
      · obtain ⟨b, off, rfl, hbb, hc⟩ := (hr1.later hb_wr).at_ (by omega)
        have c5 := hc k hlt
        clear hc
        have he : okE (nthE l k) = true := hA _ (nthE_mem l k hlt)
        have HT := Lib.hid (spread_next hlt)
        have hln1 := HLN.out (k + 1)
        rw [spread_next hlt, List.length_append, List.length_replicate] at hln1
        obtain ⟨n1, n2, _⟩ := (okE_iff _).1 he
        have hk0 : (0 : Int) ≤ (k : Int) := by omega
        have hk1 : (k : Int) < (l.length : Int) := by omega
        have hkl : k + 1 ≤ l.length := hlt
        clear he hlt
        generalize spreadL (l.take k) = acc at *
        generalize nthE l k = d at *
        obtain ⟨ea, eb, ec, ed, en⟩ := d
        obtain ⟨c0, c1, c2, c3, c4⟩ := c5
        simp only at c0 c1 c2 c3 c4 n1 n2 hln1
        have HRN := Lib.hid fun j => rep_next acc ⟨ea, eb, ec, ed, 1⟩ j
        have HT2 : Hid (spreadL (l.take (k + 1)) = acc ++ List.replicate en.toNat ⟨ea, eb, ec, ed, 1⟩) := Lib.hid HT.out
        clear HT
        obtain ⟨an, hEan⟩ : ∃ an, Hid (acc.length = an) := ⟨_, Lib.hid rfl⟩
        rw [hEan.out] at OW hln1 ⊢
        have HF0 : ∀ g, F = some ⟨g, 0, none⟩ → g ≠ wr.heap.size := fun g hg => by
          subst hg
          have := (World.ownsRow.lt OW.out g rfl).2
          omega
        have bW : Below w1.heap.size w1 (wr.alloc (.cells #[.bool ea, .int .i64 eb, .int .u8 ec, .int .i64 ed, .int .i64 en] 41)) := (by repeat (first | exact Below.refl _ _ | assumption | (refine below_drewN ?_ _) | (refine Below.drew ?_) | (refine Below.alloc ?_ (by first | omega | (simp; omega) | simp) _) | (refine Below.setCell ?_ (by first | omega | (simp; omega) | simp) _) | (refine below_trans ?_ (by assumption) (by first | omega | (simp; omega) | simp))))
        have OWW := Lib.hid (owns_laterE OW.out (show Below wr.heap.size wr (wr.alloc (.cells #[.bool ea, .int .i64 eb, .int .u8 ec, .int .i64 ed, .int .i64 en] 41)) from (by repeat (first | exact Below.refl _ _ | assumption | (refine below_drewN ?_ _) | (refine Below.drew ?_) | (refine Below.alloc ?_ (by first | omega | (simp; omega) | simp) _) | (refine Below.setCell ?_ (by first | omega | (simp; omega) | simp) _) | (refine below_trans ?_ (by assumption) (by first | omega | (simp; omega) | simp))))))
        have e5 : Ev5 (wr.alloc (.cells #[.bool ea, .int .i64 eb, .int .u8 ec, .int .i64 ed, .int .i64 en] 41)) wr.heap.size 0 ⟨ea, eb, ec, ed, en⟩ := Ev5.new wr ⟨ea, eb, ec, ed, en⟩ 41
        have hwz : wr.heap.size < (wr.alloc (.cells #[.bool ea, .int .i64 eb, .int .u8 ec, .int .i64 ed, .int .i64 en] 41)).heap.size := by simp
        go_wp2_with fail
        generalize wr.alloc (.cells #[.bool ea, .int .i64 eb, .int .u8 ec, .int .i64 ed, .int .i64 en] 41) = wA at *
        clear c0 c1 c2 c3 c4 OW hb_wr
        generalize wr.heap.size = eB at *
        have hsA := bW.size
        go_loopw [6, 27] (fun ll ii wr => ∃ (j : Nat) (F : Option Addr) (fc : Nat), ii = .int .i64 (j : Nat) ∧ j ≤ en.toNat ∧ ll = .slice F (an + j) fc ∧ wr.ownsRow w1.heap.size 41 5 (.slice F (an + j) fc) (an + j) (flatE (acc ++ List.replicate j ⟨ea, eb, ec, ed, 1⟩)) ∧ Ev5 wr eB 0 ⟨ea, eb, ec, ed, en⟩ ∧ eB < wr.heap.size ∧ Hid (∀ g, F = some ⟨g, 0, none⟩ → g ≠ eB) ∧ Below w1.heap.size w1 wr) (fun ll ii _ => en.toNat - (intOf ii).toNat)
        case atStart => exact ⟨0, F, fc, rfl, Nat.zero_le _, rfl, by simpa using OWW.out, e5, hwz, Lib.hid HF0, bW⟩
        case round =>
          clear OWW e5 hwz bW HF0
          obtain ⟨j, F, fc, rfl, hj, rfl, own, e5, hez, hF, hb_wr⟩ := hrel
          have hsr2 := hb_wr.size
          have OW := Lib.hid own
          have HE5 := Lib.hid e5
          clear own
          obtain ⟨p0, p1, p2, p3, p4⟩ := e5
          simp only [Nat.zero_add] at p0 p1 p2 p3 p4
          by_cases hlt : (j : Int) < en
          · have d2 : decide ((j : Int) < en) = true := decide_eq_true hlt
            have HR9 := Lib.hid (HRN.out j)
            have hjn : j + 1 ≤ en.toNat := by omega
            generalize acc ++ List.replicate j (⟨ea, eb, ec, ed, 1⟩ : Ev) = X at *
            have OX := Lib.hid OW.out
            go_wp2_with fail
            go_at_call 32
            refine (single_agg _ _ _ _ _).mono ?_
            rintro e w2 ⟨rfl, hb_w2⟩
            obtain ⟨hc_w2, hf_w2⟩ := bcell hb_w2; have hs_w2 := hb_w2.size; (try simp only [World.size_alloc, World.size_setCell, World.size_drew, World.heap_drewN] at hs_w2)
            have OW2 := Lib.hid (owns_laterE OW.out (show Below wr.heap.size wr w2 from (by repeat (first | exact Below.refl _ _ | assumption | (refine below_drewN ?_ _) | (refine Below.drew ?_) | (refine Below.alloc ?_ (by first | omega | (simp; omega) | simp) _) | (refine Below.setCell ?_ (by first | omega | (simp; omega) | simp) _) | (refine below_trans ?_ (by assumption) (by first | omega | (simp; omega) | simp))))))
            have e52 := HE5.out.later (show Below wr.heap.size wr w2 from (by repeat (first | exact Below.refl _ _ | assumption | (refine below_drewN ?_ _) | (refine Below.drew ?_) | (refine Below.alloc ?_ (by first | omega | (simp; omega) | simp) _) | (refine Below.setCell ?_ (by first | omega | (simp; omega) | simp) _) | (refine below_trans ?_ (by assumption) (by first | omega | (simp; omega) | simp)))))
            go_wp2_with (at_builtin; refine wpList_appendE ?_ (.tmp 29) (.tmp 32) ?_ w1.heap.size F fc (an + j) (flatE X) ?_ (owns_laterE OW2.out (show Below w2.heap.size w2 _ from (by repeat (first | exact Below.refl _ _ | assumption | (refine below_drewN ?_ _) | (refine Below.drew ?_) | (refine Below.alloc ?_ (by first | omega | (simp; omega) | simp) _) | (refine Below.setCell ?_ (by first | omega | (simp; omega) | simp) _) | (refine below_trans ?_ (by assumption) (by first | omega | (simp; omega) | simp)))))) (some ⟨w2.heap.size, 0, none⟩) 1 1 (flatE [⟨ea, eb, ec, ed, 1⟩]) ?_ rfl (fun _ => ⟨w2.heap.size, 0, rfl, fl_lies w2 (flatE [⟨ea, eb, ec, ed, 1⟩]) _⟩) (flatE_one _) (by omega) (by simp; omega) ?_; rfl; rfl; rfl; rfl; intro A7 cap7 w7 hown7 hg7 hb_w7 hat7; have hs7 := hg7.size; (try simp only [World.size_alloc] at hs7))
            rw [HR9.out] at hown7
            have e57 : Ev5 w7 eB 0 ⟨ea, eb, ec, ed, en⟩ := (e52.later (Below.alloc (Below.refl _ _) (Nat.le_refl _) _)).keep (fun o => World.cell?_of_block (hg7.block eB (by simp; omega) (by
              intro e9
              cases hFF : F with
              | none => rw [hFF] at e9; cases e9
              | some ad =>
                rw [hFF] at e9
                simp only [Option.map_some, Option.some.injEq] at e9
                obtain ⟨_, ⟨e8, _⟩ | ⟨g8, _, _, e8, _⟩⟩ := OW2.out
                · injection e8 with e8; rw [hFF] at e8; cases e8
                · injection e8 with e8
                  have e7 := hF.out g8 e8
                  rw [hFF] at e8
                  injection e8 with e8
                  rw [e8] at e9
                  exact e7 e9.symm)))
            have HF7 : Hid (∀ g, A7 = some ⟨g, 0, none⟩ → g ≠ eB) := Lib.hid (fun g hg => by
              rcases hat7 with h7 | h7
              · rw [h7] at hg
                exact hF.out g hg
              · rw [h7] at hg
                injection hg with hg
                injection hg with hg _
                simp only [World.size_alloc] at hg
                omega)
            have HO7 := Lib.hid hown7
            have HE7 := Lib.hid e57
            have HB7 := Lib.hid (show Below w1.heap.size w1 w7 from below_trans (show Below w1.heap.size w1 _ from (by repeat (first | exact Below.refl _ _ | assumption | (refine below_drewN ?_ _) | (refine Below.drew ?_) | (refine Below.alloc ?_ (by first | omega | (simp; omega) | simp) _) | (refine Below.setCell ?_ (by first | omega | (simp; omega) | simp) _) | (refine below_trans ?_ (by assumption) (by first | omega | (simp; omega) | simp))))) hb_w7 (Nat.le_refl _))
            clear hown7 e57 hg7 hb_w7 hat7 e52
            go_roundw
            case rel => exact ⟨j + 1, A7, cap7, by go_num, hjn, by rw [Nat.add_assoc], by rw [← Nat.add_assoc]; exact HO7.out, HE7.out, by omega, HF7, HB7.out⟩
            case measure => simp [intOf]; omega
          · have d2 : decide ((j : Int) < en) = false := decide_eq_false hlt
            obtain rfl : j = en.toNat := by omega
            go_wp2
            go_roundw
            case rel => exact ⟨k + 1, F, fc, by go_num, hkl, by rw [HT2.out, List.length_append, List.length_replicate, hEan.out], by rw [HT2.out, List.length_append, List.length_replicate, hEan.out]; exact OW.out, hb_wr⟩
            case measure => simp [intOf]; omega
      · obtain rfl : k = l.length := by omega
        rw [List.take_length] at OW ⊢
        go_wp2
        go_ret2
        exact ⟨F, fc, rfl, owns_monoE OW.out hs01, (by repeat (first | exact Below.refl _ _ | assumption | (refine below_drewN ?_ _) | (refine Below.drew ?_) | (refine Below.alloc ?_ (by first | omega | (simp; omega) | simp) _) | (refine Below.setCell ?_ (by first | omega | (simp; omega) | simp) _) | (refine below_trans ?_ (by assumption) (by first | omega | (simp; omega) | simp))))⟩
  · have HS := Lib.hid fun (w : World) hr => steps_any (w := w) (A := A) (C := none) (l := l) (of := []) cap 0 hr (ERow.nil _ _ _) hl (by simp) (fun e he => by simp at he) (stepsL l) 0 (.inl ⟨hok, (stepsO_all l).symm, rfl⟩)
    simp only [List.length_nil] at HS
    have d1 : decide (4096 < stepsL l) = true := decide_eq_true hst
    clear hok hst
    go_enter Tryd.func16, Tryd.ntmps16
    go_wp2_with fail
    go_at_call 18
    refine (HS.out _ (hr.later (by repeat (first | exact Below.refl _ _ | assumption | (refine below_drewN ?_ _) | (refine Below.drew ?_) | (refine Below.alloc ?_ (by first | omega | (simp; omega) | simp) _) | (refine Below.setCell ?_ (by first | omega | (simp; omega) | simp) _) | (refine below_trans ?_ (by assumption) (by first | omega | (simp; omega) | simp)))))).mono ?_
    rintro e w1 ⟨rfl, hb_w1⟩
    obtain ⟨hc_w1, hf_w1⟩ := bcell hb_w1; have hs_w1 := hb_w1.size; (try simp only [World.size_alloc, World.size_setCell, World.size_drew, World.heap_drewN] at hs_w1)
    go_wp2
    go_ret2
    exact ⟨none, 0, rfl, own_nilE _ _ 0, (by repeat (first | exact Below.refl _ _ | assumption | (refine below_drewN ?_ _) | (refine Below.drew ?_) | (refine Below.alloc ?_ (by first | omega | (simp; omega) | simp) _) | (refine Below.setCell ?_ (by first | omega | (simp; omega) | simp) _) | (refine below_trans ?_ (by assumption) (by first | omega | (simp; omega) | simp))))⟩
  · have HS := Lib.hid fun (w : World) hr => steps_any (w := w) (A := A) (C := none) (l := l) (of := []) cap 0 hr (ERow.nil _ _ _) hl (by simp) (fun e he => by simp at he) 0 2 (.inr ⟨hok, rfl, rfl⟩)
    simp only [List.length_nil] at HS
    clear hok
    go_enter Tryd.func16, Tryd.ntmps16
    go_wp2_with fail
    go_at_call 18
    refine (HS.out _ (hr.later (by repeat (first | exact Below.refl _ _ | assumption | (refine below_drewN ?_ _) | (refine Below.drew ?_) | (refine Below.alloc ?_ (by first | omega | (simp; omega) | simp) _) | (refine Below.setCell ?_ (by first | omega | (simp; omega) | simp) _) | (refine below_trans ?_ (by assumption) (by first | omega | (simp; omega) | simp)))))).mono ?_
    rintro e w1 ⟨rfl, hb_w1⟩
    obtain ⟨hc_w1, hf_w1⟩ := bcell hb_w1; have hs_w1 := hb_w1.size; (try simp only [World.size_alloc, World.size_setCell, World.size_drew, World.heap_drewN] at hs_w1)
    go_wp2
    go_ret2
    exact ⟨none, 0, rfl, own_nilE _ _ 0, (by repeat (first | exact Below.refl _ _ | assumption | (refine below_drewN ?_ _) | (refine Below.drew ?_) | (refine Below.alloc ?_ (by first | omega | (simp; omega) | simp) _) | (refine Below.setCell ?_ (by first | omega | (simp; omega) | simp) _) | (refine below_trans ?_ (by assumption) (by first | omega | (simp; omega) | simp))))⟩
end
end Go.Proofs.YtklbamkafldagaaDoor
