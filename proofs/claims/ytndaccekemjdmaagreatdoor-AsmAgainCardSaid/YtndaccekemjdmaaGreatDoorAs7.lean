/- Contracts of package asm: put, list. -/
import Derived.Test.YtndaccekemjdmaaGreatDoorAs6
import Derived.Lib.Hide
namespace Go.Proofs.YtndaccekemjdmaaGreatDoor
open Go.RowKit
set_option linter.unusedVariables false
set_option linter.unusedSimpArgs false
/-- where an operand lies, and as what -/
def jO (o : Nat) : Nat := o + 1
def vO (o : Nat) (v : Int) : Value := if o = 5 ∨ o = 6 then .int .u64 v else .int .i64 v
theorem In11.put {W : World} {g : Nat} {s : In} (h : In11 W g 0 s) (o : Nat) (ho1 : 1 ≤ o) (ho9 : o ≤ 9) (v : Int) (hv : 0 ≤ v) : In11 (W.setCell ⟨g, jO o, none⟩ (vO o v)) g 0 (putO o v s) := by
  obtain ⟨h0, h1, h2, h3, h4, h5, h6, h7, h8, h9, h10⟩ := h
  simp only [Nat.zero_add] at h0 h1 h2 h3 h4 h5 h6 h7 h8 h9 h10
  have hc : o = 1 ∨ o = 2 ∨ o = 3 ∨ o = 4 ∨ o = 5 ∨ o = 6 ∨ o = 7 ∨ o = 8 ∨ o = 9 := by omega
  have hz : ((v.toNat : Nat) : Int) = v := by omega
  rcases hc with rfl | rfl | rfl | rfl | rfl | rfl | rfl | rfl | rfl <;> constructor <;> simp [go_sem, h0, h1, h2, h3, h4, h5, h6, h7, h8, h9, h10, jO, vO, putO, hv] <;> omega
theorem below_put {B g : Nat} {W0 W : World} (o : Nat) (v : Int) (hb : Below B W0 W) (hg : B ≤ g) : Below B W0 (W.setCell ⟨g, jO o, none⟩ (vO o v)) := Below.setCell hb hg _
theorem fz_put {W : World} {g : Nat} (h : ∀ o, W.frozen? ⟨g, o, none⟩ = false) (j : Nat) (v : Value) : ∀ o, (W.setCell ⟨g, j, none⟩ v).frozen? ⟨g, o, none⟩ = false := fun o => by simpa [go_sem] using h o
theorem ix0 (w : World) (a b c : Int) : (Instr.index 97 (.agg #[.int .i64 a, .int .i64 b, .int .i64 c]) (.int .i64 0)).run Tryz.prog w = .ok (.int .i64 a) w := by kernel_rfl
theorem ix1 (w : World) (a b c : Int) : (Instr.index 97 (.agg #[.int .i64 a, .int .i64 b, .int .i64 c]) (.int .i64 1)).run Tryz.prog w = .ok (.int .i64 b) w := by kernel_rfl
theorem ix2 (w : World) (a b c : Int) : (Instr.index 97 (.agg #[.int .i64 a, .int .i64 b, .int .i64 c]) (.int .i64 2)).run Tryz.prog w = .ok (.int .i64 c) w := by kernel_rfl
section
variable {w : World}
set_option maxHeartbeats 4000000 in
theorem put_any (o : Nat) (h1 : 1 ≤ o) (h9 : o ≤ 9) (v : Int) (hv : 0 ≤ v) (hw : (o = 5 ∨ o = 6) ∨ v < 9223372036854775808) (g : Nat) (s : In) (hc : In11 w g 0 s) (hf : ∀ o, w.frozen? ⟨g, o, none⟩ = false) :
    Calls Tryz.prog 55 #[.int .i64 (o : Nat), .pointer (some ⟨g, 0, none⟩), .int .u64 v] w fun e w' => e = .returned (.tuple #[]) ∧ w' = w.setCell ⟨g, jO o, none⟩ (vO o v) := by
  obtain ⟨c0, c1, c2, c3, c4, c5, c6, c7, c8, c9, c10⟩ := hc
  simp only [Nat.zero_add] at c0 c1 c2 c3 c4 c5 c6 c7 c8 c9 c10
  have hwr : (o = 5 ∨ o = 6) ∨ IntKind.i64.wrap v = v := by
    rcases hw with h | h
    · exact .inl h
    · right; unfold IntKind.wrap; simp [IntKind.signed, IntKind.bits]; omega
  clear hw
  have hc : o = 1 ∨ o = 2 ∨ o = 3 ∨ o = 4 ∨ o = 5 ∨ o = 6 ∨ o = 7 ∨ o = 8 ∨ o = 9 := by omega
  rcases hc with rfl | rfl | rfl | rfl | rfl | rfl | rfl | rfl | rfl
  · have hx : IntKind.i64.wrap v = v := by simpa using hwr
    clear hwr
    have z := hf 2
    go_enter Tryz.func55, Tryz.ntmps55
    go_wp2
    go_end0
    exact ⟨rfl, rfl⟩
  · have hx : IntKind.i64.wrap v = v := by simpa using hwr
    clear hwr
    have z := hf 3
    go_enter Tryz.func55, Tryz.ntmps55
    go_wp2
    go_end0
    exact ⟨rfl, rfl⟩
  · have hx : IntKind.i64.wrap v = v := by simpa using hwr
    clear hwr
    have z := hf 4
    go_enter Tryz.func55, Tryz.ntmps55
    go_wp2
    go_end0
    exact ⟨rfl, rfl⟩
  · have hx : IntKind.i64.wrap v = v := by simpa using hwr
    clear hwr
    have z := hf 5
    go_enter Tryz.func55, Tryz.ntmps55
    go_wp2
    go_end0
    exact ⟨rfl, rfl⟩
  · skip
    clear hwr
    have z := hf 6
    go_enter Tryz.func55, Tryz.ntmps55
    go_wp2
    go_end0
    exact ⟨rfl, rfl⟩
  · skip
    clear hwr
    have z := hf 7
    go_enter Tryz.func55, Tryz.ntmps55
    go_wp2
    go_end0
    exact ⟨rfl, rfl⟩
  · have hx : IntKind.i64.wrap v = v := by simpa using hwr
    clear hwr
    have z := hf 8
    go_enter Tryz.func55, Tryz.ntmps55
    go_wp2
    go_end0
    exact ⟨rfl, rfl⟩
  · have hx : IntKind.i64.wrap v = v := by simpa using hwr
    clear hwr
    have z := hf 9
    go_enter Tryz.func55, Tryz.ntmps55
    go_wp2
    go_end0
    exact ⟨rfl, rfl⟩
  · have hx : IntKind.i64.wrap v = v := by simpa using hwr
    clear hwr
    have z := hf 10
    go_enter Tryz.func55, Tryz.ntmps55
    go_wp2
    go_end0
    exact ⟨rfl, rfl⟩
set_option maxRecDepth 100000 in
set_option maxHeartbeats 4000000 in
theorem list_any (f : Fm) (hf : WfF f) : Calls Tryz.prog 52 #[fmv f] w fun e w' => ∃ A cap, e = .returned (.slice A f.os.length cap) ∧ (ORow w' A f.os ∧ ∀ a, A = some a → w.heap.size ≤ a.block) ∧ Below w.heap.size w w' := by
  have HI := Lib.hid fun (W : World) (A : Option Addr) (cap : Nat) (h : W.ownsRow w.heap.size 95 1 (.slice A f.os.length cap) f.os.length (ivals (opI f.os))) => (show ORow W A f.os ∧ (∀ a, A = some a → w.heap.size ≤ a.block) from ⟨irow_ofO h (by simp [opI]) (fun x hx => by
    simp only [opI, List.mem_map] at hx
    obtain ⟨y, hy, rfl⟩ := hx
    have := hf.2 y hy
    unfold I63
    omega), fun a ha => by
    obtain ⟨_, ⟨h1, h2⟩ | ⟨g, cap', cur, e, hB, _⟩⟩ := h
    · injection h1 with h1
      rw [ha] at h1
      cases h1
    · injection e with e1
      rw [ha] at e1
      injection e1 with e1
      rw [e1]
      exact hB⟩)
  obtain ⟨hl, hm⟩ := hf
  have hop : ∀ k, k < f.os.length → 1 ≤ opn f k ∧ opn f k ≤ 9 := fun k hk => by
    unfold opn
    rw [List.getD_eq_getElem?_getD, List.getElem?_eq_getElem hk]
    have := hm _ (List.getElem_mem hk)
    simp only [Option.getD_some]
    omega
  have hoz : ∀ k, f.os.length ≤ k → opn f k = 0 := fun k hk => by
    unfold opn
    rw [List.getD_eq_getElem?_getD, List.getElem?_eq_none hk]
    rfl
  have htk : ∀ k, k < f.os.length → ivals (opI (f.os.take k)) ++ [.int .i64 (opn f k)] = ivals (opI (f.os.take (k + 1))) := fun k hk => by
    rw [List.take_add_one, List.getElem?_eq_getElem hk]
    simp only [opI, ivals, Option.toList_some, List.map_append, List.map_cons, List.map_nil, opn, List.getD_eq_getElem?_getD, List.getElem?_eq_getElem hk, Option.getD_some]
  have HP := Lib.hid hop
  have HZ := Lib.hid hoz
  have HT := Lib.hid htk
  clear hop hoz htk hm
  unfold fmv
  go_enter Tryz.func52, Tryz.ntmps52
  go_wp2_with fail
  go_loopw [3, 8] (fun ll ii wr => ∃ (k : Nat) (A : Option Addr) (cap : Nat), ii = .int .i64 (k : Nat) ∧ k ≤ f.os.length ∧ ll = .slice A k cap ∧ wr.ownsRow w.heap.size 95 1 (.slice A k cap) k (ivals (opI (f.os.take k))) ∧ Below w.heap.size w wr) (fun ll ii _ => 3 - (intOf ii).toNat)
  case atStart => exact ⟨0, none, 0, rfl, Nat.zero_le _, rfl, World.ownsRow_nil _ _ _ _, (by repeat (first | exact Below.refl _ _ | assumption | (refine below_drewN ?_ _) | (refine Below.drew ?_) | (refine Below.alloc ?_ (by first | omega | (simp; omega) | simp) _) | (refine Below.setCell ?_ (by first | omega | (simp; omega) | simp) _) | (refine below_trans ?_ (by assumption) (by first | omega | (simp; omega) | simp))))⟩
  case round =>
    obtain ⟨k, A, cap, rfl, hk, rfl, own, hb_wr⟩ := hrel
    have hsr := hb_wr.size
    have OW := Lib.hid own
    clear own
    have hk3 : k = 0 ∨ k = 1 ∨ k = 2 ∨ k = 3 := by omega
    rcases hk3 with rfl | rfl | rfl | rfl
    · have IX := fun W => ix0 W (opn f 0) (opn f 1) (opn f 2)
      by_cases hlt : 0 < f.os.length
      · have hq := HP.out 0 hlt
        have e1 : (opn f 0 == 0) = false := by simp; omega
        have HX := Lib.hid (HT.out 0 hlt)
        have hle : 0 + 1 ≤ f.os.length := hlt
        clear hq hlt
        go_wp2_with (at_builtin; refine wpList_appendO ?_ (.tmp 13) (.tmp 15) ?_ w.heap.size A cap 0 (ivals (opI (f.os.take 0))) ?_ (owns_laterO OW.out (show Below wr.heap.size wr _ from (by repeat (first | exact Below.refl _ _ | assumption | (refine below_drewN ?_ _) | (refine Below.drew ?_) | (refine Below.alloc ?_ (by first | omega | (simp; omega) | simp) _) | (refine Below.setCell ?_ (by first | omega | (simp; omega) | simp) _) | (refine below_trans ?_ (by assumption) (by first | omega | (simp; omega) | simp)))))) (some ⟨wr.heap.size, 0, none⟩) 1 1 [.int .i64 (opn f 0)] ?_ rfl (fun _ => ⟨wr.heap.size, 0, rfl, fl_lies wr [.int .i64 (opn f 0)] _⟩) (by intro u hu; simp at hu; subst hu; rfl) (by omega) (by simp; omega) ?_; rfl; rfl; rfl; rfl; intro A7 cap7 w7 hown7 hg7 hb_w7 hat7; have hs7 := hb_w7.size)
        rw [HX.out] at hown7
        go_roundw
        case rel => exact ⟨0 + 1, A7, cap7, by go_num, hle, rfl, hown7, (by repeat (first | exact Below.refl _ _ | assumption | (refine below_drewN ?_ _) | (refine Below.drew ?_) | (refine Below.alloc ?_ (by first | omega | (simp; omega) | simp) _) | (refine Below.setCell ?_ (by first | omega | (simp; omega) | simp) _) | (refine below_trans ?_ (by assumption) (by first | omega | (simp; omega) | simp))))⟩
        case measure => simp [intOf]
      · have e1 : (opn f 0 == 0) = true := by simp [HZ.out 0 (by omega)]
        have hlen : f.os.length = 0 := by omega
        have HO := OW.out
        have HL := Lib.hid hlen
        rw [show f.os.take 0 = f.os from List.take_of_length_le (by omega)] at HO
        have HJ := Lib.hid HO
        clear HO hlen hlt hk hl
        go_wp2
        go_ret
        refine ⟨A, cap, by rw [HL.out]; rfl, HI.out _ A cap ?_, (by repeat (first | exact Below.refl _ _ | assumption | (refine below_drewN ?_ _) | (refine Below.drew ?_) | (refine Below.alloc ?_ (by first | omega | (simp; omega) | simp) _) | (refine Below.setCell ?_ (by first | omega | (simp; omega) | simp) _) | (refine below_trans ?_ (by assumption) (by first | omega | (simp; omega) | simp))))⟩
        rw [HL.out]
        exact HJ.out
    · have IX := fun W => ix1 W (opn f 0) (opn f 1) (opn f 2)
      by_cases hlt : 1 < f.os.length
      · have hq := HP.out 1 hlt
        have e1 : (opn f 1 == 0) = false := by simp; omega
        have HX := Lib.hid (HT.out 1 hlt)
        have hle : 1 + 1 ≤ f.os.length := hlt
        clear hq hlt
        go_wp2_with (at_builtin; refine wpList_appendO ?_ (.tmp 13) (.tmp 15) ?_ w.heap.size A cap 1 (ivals (opI (f.os.take 1))) ?_ (owns_laterO OW.out (show Below wr.heap.size wr _ from (by repeat (first | exact Below.refl _ _ | assumption | (refine below_drewN ?_ _) | (refine Below.drew ?_) | (refine Below.alloc ?_ (by first | omega | (simp; omega) | simp) _) | (refine Below.setCell ?_ (by first | omega | (simp; omega) | simp) _) | (refine below_trans ?_ (by assumption) (by first | omega | (simp; omega) | simp)))))) (some ⟨wr.heap.size, 0, none⟩) 1 1 [.int .i64 (opn f 1)] ?_ rfl (fun _ => ⟨wr.heap.size, 0, rfl, fl_lies wr [.int .i64 (opn f 1)] _⟩) (by intro u hu; simp at hu; subst hu; rfl) (by omega) (by simp; omega) ?_; rfl; rfl; rfl; rfl; intro A7 cap7 w7 hown7 hg7 hb_w7 hat7; have hs7 := hb_w7.size)
        rw [HX.out] at hown7
        go_roundw
        case rel => exact ⟨1 + 1, A7, cap7, by go_num, hle, rfl, hown7, (by repeat (first | exact Below.refl _ _ | assumption | (refine below_drewN ?_ _) | (refine Below.drew ?_) | (refine Below.alloc ?_ (by first | omega | (simp; omega) | simp) _) | (refine Below.setCell ?_ (by first | omega | (simp; omega) | simp) _) | (refine below_trans ?_ (by assumption) (by first | omega | (simp; omega) | simp))))⟩
        case measure => simp [intOf]
      · have e1 : (opn f 1 == 0) = true := by simp [HZ.out 1 (by omega)]
        have hlen : f.os.length = 1 := by omega
        have HO := OW.out
        have HL := Lib.hid hlen
        rw [show f.os.take 1 = f.os from List.take_of_length_le (by omega)] at HO
        have HJ := Lib.hid HO
        clear HO hlen hlt hk hl
        go_wp2
        go_ret
        refine ⟨A, cap, by rw [HL.out]; rfl, HI.out _ A cap ?_, (by repeat (first | exact Below.refl _ _ | assumption | (refine below_drewN ?_ _) | (refine Below.drew ?_) | (refine Below.alloc ?_ (by first | omega | (simp; omega) | simp) _) | (refine Below.setCell ?_ (by first | omega | (simp; omega) | simp) _) | (refine below_trans ?_ (by assumption) (by first | omega | (simp; omega) | simp))))⟩
        rw [HL.out]
        exact HJ.out
    · have IX := fun W => ix2 W (opn f 0) (opn f 1) (opn f 2)
      by_cases hlt : 2 < f.os.length
      · have hq := HP.out 2 hlt
        have e1 : (opn f 2 == 0) = false := by simp; omega
        have HX := Lib.hid (HT.out 2 hlt)
        have hle : 2 + 1 ≤ f.os.length := hlt
        clear hq hlt
        go_wp2_with (at_builtin; refine wpList_appendO ?_ (.tmp 13) (.tmp 15) ?_ w.heap.size A cap 2 (ivals (opI (f.os.take 2))) ?_ (owns_laterO OW.out (show Below wr.heap.size wr _ from (by repeat (first | exact Below.refl _ _ | assumption | (refine below_drewN ?_ _) | (refine Below.drew ?_) | (refine Below.alloc ?_ (by first | omega | (simp; omega) | simp) _) | (refine Below.setCell ?_ (by first | omega | (simp; omega) | simp) _) | (refine below_trans ?_ (by assumption) (by first | omega | (simp; omega) | simp)))))) (some ⟨wr.heap.size, 0, none⟩) 1 1 [.int .i64 (opn f 2)] ?_ rfl (fun _ => ⟨wr.heap.size, 0, rfl, fl_lies wr [.int .i64 (opn f 2)] _⟩) (by intro u hu; simp at hu; subst hu; rfl) (by omega) (by simp; omega) ?_; rfl; rfl; rfl; rfl; intro A7 cap7 w7 hown7 hg7 hb_w7 hat7; have hs7 := hb_w7.size)
        rw [HX.out] at hown7
        go_roundw
        case rel => exact ⟨2 + 1, A7, cap7, by go_num, hle, rfl, hown7, (by repeat (first | exact Below.refl _ _ | assumption | (refine below_drewN ?_ _) | (refine Below.drew ?_) | (refine Below.alloc ?_ (by first | omega | (simp; omega) | simp) _) | (refine Below.setCell ?_ (by first | omega | (simp; omega) | simp) _) | (refine below_trans ?_ (by assumption) (by first | omega | (simp; omega) | simp))))⟩
        case measure => simp [intOf]
      · have e1 : (opn f 2 == 0) = true := by simp [HZ.out 2 (by omega)]
        have hlen : f.os.length = 2 := by omega
        have HO := OW.out
        have HL := Lib.hid hlen
        rw [show f.os.take 2 = f.os from List.take_of_length_le (by omega)] at HO
        have HJ := Lib.hid HO
        clear HO hlen hlt hk hl
        go_wp2
        go_ret
        refine ⟨A, cap, by rw [HL.out]; rfl, HI.out _ A cap ?_, (by repeat (first | exact Below.refl _ _ | assumption | (refine below_drewN ?_ _) | (refine Below.drew ?_) | (refine Below.alloc ?_ (by first | omega | (simp; omega) | simp) _) | (refine Below.setCell ?_ (by first | omega | (simp; omega) | simp) _) | (refine below_trans ?_ (by assumption) (by first | omega | (simp; omega) | simp))))⟩
        rw [HL.out]
        exact HJ.out
    · have hlen : f.os.length = 3 := by omega
      have HO := OW.out
      have HL := Lib.hid hlen
      rw [show f.os.take 3 = f.os from List.take_of_length_le (by omega)] at HO
      have HJ := Lib.hid HO
      clear HO hlen hk hl
      go_wp2
      go_ret
      refine ⟨A, cap, by rw [HL.out]; rfl, HI.out _ A cap ?_, (by repeat (first | exact Below.refl _ _ | assumption | (refine below_drewN ?_ _) | (refine Below.drew ?_) | (refine Below.alloc ?_ (by first | omega | (simp; omega) | simp) _) | (refine Below.setCell ?_ (by first | omega | (simp; omega) | simp) _) | (refine below_trans ?_ (by assumption) (by first | omega | (simp; omega) | simp))))⟩
      rw [HL.out]
      exact HJ.out
end
end Go.Proofs.YtndaccekemjdmaaGreatDoor
