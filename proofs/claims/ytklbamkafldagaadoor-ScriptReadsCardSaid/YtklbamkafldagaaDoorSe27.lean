/- Contracts of the document's package: Check, Print. -/
import Derived.Test.YtklbamkafldagaaDoorSe26
namespace Go.Proofs.YtklbamkafldagaaDoor
open Go.RowKit
set_option linter.unusedVariables false
set_option linter.unusedSimpArgs false
section
variable {w : World}
theorem right_agg (a : Bool) (b c d n : Int) (hk : 0 ≤ c) (r : Bool) (hr : okE ⟨a, b, c, d, n⟩ = r) : Calls Tryd.prog 35 #[.agg #[.bool a, .int .i64 b, .int .u8 c, .int .i64 d, .int .i64 n]] w fun e w' => e = .returned (.bool r) ∧ Below w.heap.size w w' := by
  have h := right_any (w := w) ⟨a, b, c, d, n⟩ hk
  rw [hr] at h
  exact h
theorem xline_agg (a : Bool) (b c d n : Int) (h : okE ⟨a, b, c, d, n⟩ = true) : Calls Tryd.prog 29 #[.agg #[.bool a, .int .i64 b, .int .u8 c, .int .i64 d, .int .i64 n]] w fun r w' => r = .returned (.string (bs (lineE ⟨a, b, c, d, n⟩))) ∧ Below w.heap.size w w' := xline_any ⟨a, b, c, d, n⟩ h
set_option maxRecDepth 100000 in
set_option maxHeartbeats 4000000 in
theorem xcheck_any {A : Option Addr} {l : List Ev} (cap : Nat) (hr : ERow w w.heap.size A l) (hl : l.length ≤ 17592186044416) (hk : ∀ e ∈ l, 0 ≤ e.k) (y : Int) (hy : (OkL l ∧ y = 0) ∨ (¬ OkL l ∧ y = 2)) :
    Calls Tryd.prog 21 #[.slice A l.length cap] w fun e w' => e = .returned (.int .i64 y) ∧ Below w.heap.size w w' := by
  by_cases hlen : 4096 < l.length
  · obtain rfl : y = 2 := by
      rcases hy with ⟨h, _⟩ | ⟨_, h⟩
      · exact absurd h.1 (by omega)
      · exact h
    have d1 : decide (4096 < (l.length : Int)) = true := decide_eq_true (by omega)
    clear hy
    go_enter Tryd.func21, Tryd.ntmps21
    go_wp2
    go_ret
    exact ⟨rfl, (by repeat (first | exact Below.refl _ _ | assumption | (refine below_drewN ?_ _) | (refine Below.drew ?_) | (refine Below.alloc ?_ (by first | omega | (simp; omega) | simp) _) | (refine Below.setCell ?_ (by first | omega | (simp; omega) | simp) _) | (refine below_trans ?_ (by assumption) (by first | omega | (simp; omega) | simp))))⟩
  · have d1 : decide (4096 < (l.length : Int)) = false := decide_eq_false (by omega)
    have hY := Lib.hid hy
    have HK := Lib.hid hk
    clear hy hk
    go_enter Tryd.func21, Tryd.ntmps21
    go_wp2_with fail
    go_loopw [10] (fun ii wr => ∃ k : Nat, ii = .int .i64 (k : Nat) ∧ k ≤ l.length ∧ OkA (l.take k) ∧ Below w.heap.size w wr) (fun ii _ => l.length - (intOf ii).toNat)
    case atStart => exact ⟨0, rfl, Nat.zero_le _, fun x hx => by simp at hx, (by repeat (first | exact Below.refl _ _ | assumption | (refine below_drewN ?_ _) | (refine Below.drew ?_) | (refine Below.alloc ?_ (by first | omega | (simp; omega) | simp) _) | (refine Below.setCell ?_ (by first | omega | (simp; omega) | simp) _) | (refine below_trans ?_ (by assumption) (by first | omega | (simp; omega) | simp))))⟩
    case round =>
      obtain ⟨k, rfl, hk, hG, hb_wr⟩ := hrel
      have hsr := hb_wr.size
      by_cases hlt : k < l.length
      · obtain ⟨b, off, rfl, hbb, hc⟩ := (hr.later hb_wr).at_ (by omega)
        have c5 := hc k hlt
        clear hc
        have hnx := Lib.hid fun he => okL_next hlt hG he
        have hbd := Lib.hid fun he => okL_bad (l := l) hlt he
        have hkk := HK.out _ (nthE_mem l k hlt)
        have hk0 : (0 : Int) ≤ (k : Int) := by omega
        have hk1 : (k : Int) < (l.length : Int) := by omega
        clear hG
        generalize nthE l k = d at *
        obtain ⟨ea, eb, ec, ed, en⟩ := d
        obtain ⟨c0, c1, c2, c3, c4⟩ := c5
        simp only at c0 c1 c2 c3 c4 hkk
        rcases hq : okE ⟨ea, eb, ec, ed, en⟩ with _ | _
        · rw [hq] at hbd
          have HRT := Lib.hid fun (w : World) => right_agg (w := w) ea eb ec ed en hkk false hq
          obtain rfl : y = 2 := by
            rcases hY.out with ⟨h, _⟩ | ⟨_, h⟩
            · exact absurd h (hbd.out rfl)
            · exact h
          clear hnx hbd hq hkk
          go_wp2_with fail
          go_at_call 35
          refine (HRT.out _).mono ?_
          rintro e w2 ⟨rfl, hb_w2⟩
          obtain ⟨hc_w2, hf_w2⟩ := bcell hb_w2; have hz_w2_wr_0 : wr.heap.size < w2.heap.size := (by have hzz := hb_w2.size; (try simp only [World.size_alloc, World.size_setCell, World.size_drew, World.heap_drewN] at hzz); omega); have hs_w2 := hb_w2.size; (try simp only [World.size_alloc, World.size_setCell, World.size_drew, World.heap_drewN] at hs_w2)
          go_wp2
          go_ret
          exact ⟨rfl, (by repeat (first | exact Below.refl _ _ | assumption | (refine below_drewN ?_ _) | (refine Below.drew ?_) | (refine Below.alloc ?_ (by first | omega | (simp; omega) | simp) _) | (refine Below.setCell ?_ (by first | omega | (simp; omega) | simp) _) | (refine below_trans ?_ (by assumption) (by first | omega | (simp; omega) | simp))))⟩
        · rw [hq] at hnx
          have HRT := Lib.hid fun (w : World) => right_agg (w := w) ea eb ec ed en hkk true hq
          clear hbd hq hkk
          go_wp2_with fail
          go_at_call 35
          refine (HRT.out _).mono ?_
          rintro e w2 ⟨rfl, hb_w2⟩
          obtain ⟨hc_w2, hf_w2⟩ := bcell hb_w2; have hz_w2_wr_0 : wr.heap.size < w2.heap.size := (by have hzz := hb_w2.size; (try simp only [World.size_alloc, World.size_setCell, World.size_drew, World.heap_drewN] at hzz); omega); have hs_w2 := hb_w2.size; (try simp only [World.size_alloc, World.size_setCell, World.size_drew, World.heap_drewN] at hs_w2)
          go_wp2
          go_roundw
          case rel => exact ⟨k + 1, by go_num, by omega, hnx.out trivial, (by repeat (first | exact Below.refl _ _ | assumption | (refine below_drewN ?_ _) | (refine Below.drew ?_) | (refine Below.alloc ?_ (by first | omega | (simp; omega) | simp) _) | (refine Below.setCell ?_ (by first | omega | (simp; omega) | simp) _) | (refine below_trans ?_ (by assumption) (by first | omega | (simp; omega) | simp))))⟩
          case measure => simp [intOf]; omega
      · obtain rfl : k = l.length := by omega
        obtain rfl : y = 0 := by
          rcases hY.out with ⟨_, h⟩ | ⟨h, _⟩
          · exact h
          · rw [List.take_length] at hG
            exact absurd ⟨by omega, hG⟩ h
        go_wp2
        go_ret
        exact ⟨rfl, (by repeat (first | exact Below.refl _ _ | assumption | (refine below_drewN ?_ _) | (refine Below.drew ?_) | (refine Below.alloc ?_ (by first | omega | (simp; omega) | simp) _) | (refine Below.setCell ?_ (by first | omega | (simp; omega) | simp) _) | (refine below_trans ?_ (by assumption) (by first | omega | (simp; omega) | simp))))⟩
set_option maxRecDepth 100000 in
set_option maxHeartbeats 4000000 in
theorem xprint_any {A : Option Addr} {l : List Ev} (cap : Nat) (hr : ERow w w.heap.size A l) (hl : l.length ≤ 17592186044416) (hk : ∀ e ∈ l, 0 ≤ e.k) :
    Calls Tryd.prog 13 #[.slice A l.length cap] w fun e w' => PrintR w l e w' := by
  unfold PrintR
  by_cases hok : OkL l
  · have HC := Lib.hid fun (w : World) hr => xcheck_any (w := w) (A := A) (l := l) cap hr hl hk 0 (.inl ⟨hok, rfl⟩)
    have hA : OkA l := hok.2
    have HPL := Lib.hid fun k => printL_len (hA.take k)
    have HE := Lib.hid fun k (hk : k < l.length) => hA _ (nthE_mem l k hk)
    have h4096 := hok.1
    have HOK := Lib.hid hok
    clear hok hA hk
    go_enter Tryd.func13, Tryd.ntmps13
    go_wp2_with fail
    go_at_call 21
    refine (HC.out _ (hr.later (by repeat (first | exact Below.refl _ _ | assumption | (refine below_drewN ?_ _) | (refine Below.drew ?_) | (refine Below.alloc ?_ (by first | omega | (simp; omega) | simp) _) | (refine Below.setCell ?_ (by first | omega | (simp; omega) | simp) _) | (refine below_trans ?_ (by assumption) (by first | omega | (simp; omega) | simp)))))).mono ?_
    rintro e w1 ⟨rfl, hb_w1⟩
    obtain ⟨hc_w1, hf_w1⟩ := bcell hb_w1; have hs_w1 := hb_w1.size; (try simp only [World.size_alloc, World.size_setCell, World.size_drew, World.heap_drewN] at hs_w1)
    have hr1 := hr.later hb_w1
    go_wp2_with fail
    go_loopw [4, 12] (fun ss ii wr => ∃ k : Nat, ii = .int .i64 (k : Nat) ∧ k ≤ l.length ∧ ss = .string (bs (printL (l.take k))) ∧ Below w1.heap.size w1 wr) (fun ss ii _ => l.length - (intOf ii).toNat)
    case atStart => exact ⟨0, rfl, Nat.zero_le _, rfl, (by repeat (first | exact Below.refl _ _ | assumption | (refine below_drewN ?_ _) | (refine Below.drew ?_) | (refine Below.alloc ?_ (by first | omega | (simp; omega) | simp) _) | (refine Below.setCell ?_ (by first | omega | (simp; omega) | simp) _) | (refine below_trans ?_ (by assumption) (by first | omega | (simp; omega) | simp))))⟩
    case round =>
      obtain ⟨k, rfl, hk, rfl, hb_wr⟩ := hrel
      have hsr := hb_wr.size
      by_cases hlt : k < l.length
      · obtain ⟨b, off, rfl, hbb, hc⟩ := (hr1.later hb_wr).at_ (by omega)
        have c5 := hc k hlt
        clear hc
        have he := HE.out k hlt
        have hln := (okE_line he).2.2
        have HPK := printL_snoc (l.take k) (nthE l k)
        have hpl := HPL.out k
        rw [← take_nthE l k hlt] at HPK
        have hk0 : (0 : Int) ≤ (k : Int) := by omega
        have hk1 : (k : Int) < (l.length : Int) := by omega
        have htk : (l.take k).length ≤ 4096 := by rw [List.length_take]; omega
        generalize nthE l k = d at *
        obtain ⟨ea, eb, ec, ed, en⟩ := d
        obtain ⟨c0, c1, c2, c3, c4⟩ := c5
        simp only at c0 c1 c2 c3 c4
        have HLN := Lib.hid fun (w : World) => xline_agg (w := w) ea eb ec ed en he
        clear he
        generalize lineE ⟨ea, eb, ec, ed, en⟩ = LN at *
        have z1 : ¬ (9223372036854775807 < (bs LN).size + 1) := by rw [bs_size]; omega
        have z2 : ¬ (9223372036854775807 < (bs (printL (l.take k))).size + ((bs LN).size + 1)) := by rw [bs_size, bs_size]; omega
        have e1 : bs (printL (l.take k)) ++ (bs LN ++ ⟨#[10]⟩ : ByteArray) = bs (printL (l.take (k + 1))) := by
          rw [HPK, show (⟨#[10]⟩ : ByteArray) = bs [10] from rfl, bs_append, bs_append]
        clear hpl hln htk HPK
        generalize hP2 : bs (printL (l.take (k + 1))) = P2 at *
        have HP2 := Lib.hid hP2
        clear hP2
        generalize bs (printL (l.take k)) = P1 at *
        generalize bs LN = BL at *
        go_wp2_with fail
        go_at_call 29
        refine (HLN.out _).mono ?_
        rintro e w2 ⟨rfl, hb_w2⟩
        obtain ⟨hc_w2, hf_w2⟩ := bcell hb_w2; have hz_w2_wr_0 : wr.heap.size < w2.heap.size := (by have hzz := hb_w2.size; (try simp only [World.size_alloc, World.size_setCell, World.size_drew, World.heap_drewN] at hzz); omega); have hs_w2 := hb_w2.size; (try simp only [World.size_alloc, World.size_setCell, World.size_drew, World.heap_drewN] at hs_w2)
        go_wp2
        go_roundw
        case rel => exact ⟨k + 1, by go_num, by omega, by rw [HP2.out], (by repeat (first | exact Below.refl _ _ | assumption | (refine below_drewN ?_ _) | (refine Below.drew ?_) | (refine Below.alloc ?_ (by first | omega | (simp; omega) | simp) _) | (refine Below.setCell ?_ (by first | omega | (simp; omega) | simp) _) | (refine below_trans ?_ (by assumption) (by first | omega | (simp; omega) | simp))))⟩
        case measure => simp [intOf]; omega
      · obtain rfl : k = l.length := by omega
        rw [List.take_length]
        have HOK2 := HOK.out
        go_wp2
        go_ret2
        exact ⟨.inl ⟨HOK2, rfl⟩, (by repeat (first | exact Below.refl _ _ | assumption | (refine below_drewN ?_ _) | (refine Below.drew ?_) | (refine Below.alloc ?_ (by first | omega | (simp; omega) | simp) _) | (refine Below.setCell ?_ (by first | omega | (simp; omega) | simp) _) | (refine below_trans ?_ (by assumption) (by first | omega | (simp; omega) | simp))))⟩
  · have HC := Lib.hid fun (w : World) hr => xcheck_any (w := w) (A := A) (l := l) cap hr hl hk 2 (.inr ⟨hok, rfl⟩)
    have HOK := Lib.hid hok
    clear hok hk
    go_enter Tryd.func13, Tryd.ntmps13
    go_wp2_with fail
    go_at_call 21
    refine (HC.out _ (hr.later (by repeat (first | exact Below.refl _ _ | assumption | (refine below_drewN ?_ _) | (refine Below.drew ?_) | (refine Below.alloc ?_ (by first | omega | (simp; omega) | simp) _) | (refine Below.setCell ?_ (by first | omega | (simp; omega) | simp) _) | (refine below_trans ?_ (by assumption) (by first | omega | (simp; omega) | simp)))))).mono ?_
    rintro e w1 ⟨rfl, hb_w1⟩
    obtain ⟨hc_w1, hf_w1⟩ := bcell hb_w1; have hs_w1 := hb_w1.size; (try simp only [World.size_alloc, World.size_setCell, World.size_drew, World.heap_drewN] at hs_w1)
    go_wp2
    go_ret2
    exact ⟨.inr ⟨HOK.out, rfl⟩, (by repeat (first | exact Below.refl _ _ | assumption | (refine below_drewN ?_ _) | (refine Below.drew ?_) | (refine Below.alloc ?_ (by first | omega | (simp; omega) | simp) _) | (refine Below.setCell ?_ (by first | omega | (simp; omega) | simp) _) | (refine below_trans ?_ (by assumption) (by first | omega | (simp; omega) | simp))))⟩
end
end Go.Proofs.YtklbamkafldagaaDoor
