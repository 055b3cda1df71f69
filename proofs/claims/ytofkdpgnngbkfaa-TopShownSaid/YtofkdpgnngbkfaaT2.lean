/- The walk of the law TopShown. -/
import Derived.Test.YtofkdpgnngbkfaaT1
namespace Go.Proofs.Ytofkdpgnngbkfaa
open Go.RowKit
set_option linter.unusedVariables false
set_option linter.unusedSimpArgs false

theorem get_ex (N i : Int) (ws : List Nat) : ∃ (b : Bool) (y : Int), ∀ (w : World) (A : Option Addr) (cap : Nat), Row w w.heap.size A ws → Calls Try.prog 18 #[.agg #[.int .i64 N, .slice A ws.length cap], .int .i64 i] w fun e w' => e = .returned (.tuple #[.bool b, .int .i64 y]) ∧ Below w.heap.size w w' := by
  by_cases h : Right N ws
  · by_cases hi : 0 ≤ i ∧ i < N
    · exact ⟨_, _, fun w A cap hr => get_in cap i hr h hi.1 hi.2⟩
    · exact ⟨_, _, fun w A cap hr => get_out cap i hr h hi⟩
  · exact ⟨_, _, fun w A cap hr => get_bad cap i hr h⟩
/-- the arena's words when k words are stored -/
def stTo (m : Nat) (ws : List Nat) (k : Nat) : List Nat := overTo (List.replicate m 0) 0 (fun j => ws.getD j 0) k
theorem length_stTo (m : Nat) (ws : List Nat) (k : Nat) : (stTo m ws k).length = m := by unfold stTo; rw [length_overTo, List.length_replicate]
theorem stTo_next (m : Nat) (ws : List Nat) (k : Nat) : stTo m ws (k + 1) = (stTo m ws k).set k (ws.getD k 0) := by
  unfold stTo
  rw [overTo, Nat.zero_add]
theorem stTo_at (m : Nat) (ws : List Nat) (k j : Nat) (hj : j < k) (hm : j < m) : (stTo m ws k).getD j 0 = ws.getD j 0 := by
  unfold stTo
  rw [overTo_at, if_pos (by rw [List.length_replicate]; omega), Nat.sub_zero]

set_option maxRecDepth 100000 in
set_option maxHeartbeats 4000000 in
theorem topShown_main (N : Int) (A : Option Addr) (cap : Nat) (ws : List Nat) (m : Nat) (i : Int) (w : World) (hr : Row w w.heap.size A ws) (h : Right N ws) (hm : m ≤ 16384) (hlen : ws.length ≤ m) :
    Calls Try.prog 4 #[.agg #[.int .i64 N, .slice A ws.length cap], .int .i64 (m : Nat), .int .i64 i] w fun e w' => e = .returned (.bool true) ∧ Below w.heap.size w w' := by
  obtain ⟨gb, gy, G⟩ := get_ex N i ws
  have hl2 := right_len h
  have hcl := countTo_le ws N.toNat
  have hN := h.2.1
  have hN0 := h.1
  obtain ⟨i0, hi, hz0, hz1, hz2⟩ := info_parts info_u64
  have HG := Lib.hid G
  have hR := Lib.hid h
  obtain ⟨ct, hct⟩ : ∃ ct, Hid (countTo ws N.toNat = ct) := ⟨_, rfl⟩
  have e1 : (gy == gy) = true := by simp
  have e2 : (gb == gb) = true := by simp
  have e3 : ((ct : Int) == (ct : Int)) = true := by simp
  have hd : decide (m < ws.length) = false := decide_eq_false (by omega)
  clear G h hN hN0 hcl
  go_enter Try.func4, Try.ntmps4
  go_wp2_with fail
  go_at_call 15
  refine (begins_any _).mono ?_
  rintro e w1 ⟨rfl, hb_w1⟩
  obtain ⟨hc_w1, hf_w1⟩ := bcell hb_w1; have hz_w1_w_0 : w.heap.size < w1.heap.size := (by have hzz := hb_w1.size; (try simp only [World.size_alloc, World.size_setCell, World.size_drew, World.heap_drewN] at hzz); omega); have hs_w1 := hb_w1.size; (try simp only [World.size_alloc, World.size_setCell, World.size_drew, World.heap_drewN] at hs_w1)
  go_wp2_with fail
  go_at_call 9
  refine ((amake_ok (m : Nat) _ (by omega) (by omega)).mono fun _ _ hh => hh.len (L := m) (by rw [List.length_replicate]; omega)).mono ?_
  rintro e w2 ⟨A2, cap2, rfl, ho2, hb_w2⟩
  obtain ⟨hc_w2, hf_w2⟩ := bcell hb_w2; have hz_w2_w_0 : w.heap.size < w2.heap.size := (by have hzz := hb_w2.size; (try simp only [World.size_alloc, World.size_setCell, World.size_drew, World.heap_drewN] at hzz); omega); have hs_w2 := hb_w2.size; (try simp only [World.size_alloc, World.size_setCell, World.size_drew, World.heap_drewN] at hs_w2)
  go_wp2_with fail
  go_at_call 16
  refine (check_ok cap (hr.later (by repeat (first | exact Below.refl _ _ | assumption | (refine below_drewN ?_ _) | (refine Below.drew ?_) | (refine Below.alloc ?_ (by first | omega | (simp; omega) | simp) _) | (refine Below.setCell ?_ (by first | omega | (simp; omega) | simp) _) | (refine below_trans ?_ (by assumption) (by first | omega | (simp; omega) | simp))))) hR.out).mono ?_
  rintro e w3 ⟨rfl, hb_w3⟩
  obtain ⟨hc_w3, hf_w3⟩ := bcell hb_w3; have hz_w3_w_0 : w.heap.size < w3.heap.size := (by have hzz := hb_w3.size; (try simp only [World.size_alloc, World.size_setCell, World.size_drew, World.heap_drewN] at hzz); omega); have hz_w3_w2_0 : w2.heap.size < w3.heap.size := (by have hzz := hb_w3.size; (try simp only [World.size_alloc, World.size_setCell, World.size_drew, World.heap_drewN] at hzz); omega); have hs_w3 := hb_w3.size; (try simp only [World.size_alloc, World.size_setCell, World.size_drew, World.heap_drewN] at hs_w3)
  have q0 : w3.cell? ⟨w.heap.size, 0, none⟩ = some (.int .i64 N) := (hc_w3 _ _ (by first | omega | (simp; omega) | simp)).trans ((World.cell?_alloc_lt _ _ ⟨_, _, _⟩ (by first | omega | (simp; omega) | simp)).trans ((hc_w2 _ _ (by first | omega | (simp; omega) | simp)).trans ((hc_w1 _ _ (by first | omega | (simp; omega) | simp)).trans (by simp [go_sem]))))
  have q1 : w3.cell? ⟨w.heap.size, 1, none⟩ = some (.slice A ws.length cap) := (hc_w3 _ _ (by first | omega | (simp; omega) | simp)).trans ((World.cell?_alloc_lt _ _ ⟨_, _, _⟩ (by first | omega | (simp; omega) | simp)).trans ((hc_w2 _ _ (by first | omega | (simp; omega) | simp)).trans ((hc_w1 _ _ (by first | omega | (simp; omega) | simp)).trans (by simp [go_sem]))))
  have a3 : One w3 w2.heap.size (.slice A2 m cap2) := (One.new w2 _ _).below hb_w3 (by first | omega | (simp; omega) | simp)
  have ro3 : Row w3 w3.heap.size A2 (stTo m ws 0) := (ho2.row.later ((Below.refl _ _).alloc (Nat.le_refl _) _)).later hb_w3
  have hb3 : Below w.heap.size w w3 := (by repeat (first | exact Below.refl _ _ | assumption | (refine below_drewN ?_ _) | (refine Below.drew ?_) | (refine Below.alloc ?_ (by first | omega | (simp; omega) | simp) _) | (refine Below.setCell ?_ (by first | omega | (simp; omega) | simp) _) | (refine below_trans ?_ (by assumption) (by first | omega | (simp; omega) | simp))))
  go_wp2_with fail
  clear hc_w1 hc_w2 hc_w3 hf_w1 hf_w2 hf_w3
  go_loopw [55] (fun ii wr => ∃ k : Nat, ii = .int .i64 (k : Nat) ∧ k ≤ ws.length ∧ ∃ A' cap', One wr w2.heap.size (.slice A' m cap') ∧ Row wr wr.heap.size A' (stTo m ws k) ∧ wr.cell? ⟨w.heap.size, 0, none⟩ = some (.int .i64 N) ∧ wr.cell? ⟨w.heap.size, 1, none⟩ = some (.slice A ws.length cap) ∧ w2.heap.size + 1 ≤ wr.heap.size ∧ Below w.heap.size w wr) (fun ii _ => ws.length - (intOf ii).toNat)
  case atStart => exact ⟨0, rfl, Nat.zero_le _, A2, cap2, a3, ro3, q0, q1, (by first | omega | (simp; omega) | simp), hb3⟩
  case round =>
    obtain ⟨k, rfl, hk, A', cap', aO, aR, p0, p1, hsz, hb_wr⟩ := hrel
    have hsr := hb_wr.size
    have hzr0 : w.heap.size < wr.heap.size := by omega
    have hzr2 : w2.heap.size < wr.heap.size := by omega
    by_cases hlt : k < ws.length
    · obtain ⟨b, off, rfl, hb, hc⟩ := (hr.later hb_wr).at_ (by omega)
      have hck := hc k hlt
      have hxl := hr.words.at_ k
      obtain ⟨x, hx⟩ := named ws k
      rw [hx.out] at hck hxl
      clear hc
      have hwk : IntKind.u64.wrap (k : Int) = (k : Int) := by rw [IntKind.wrap_u64]; omega
      obtain ⟨z0, zf⟩ := id aO
      have HX := Lib.hid hxl
      have HS : Hid (stTo m ws (k + 1) = (stTo m ws k).set k x) := Lib.hid (by rw [stTo_next, hx.out])
      clear hxl
      go_wp2_with fail
      go_at_call 17
      refine (store_at cap' m k x aR (length_stTo _ _ _) hm (by omega) HX.out).mono ?_
      rintro e w4 ⟨A4, cap4, rfl, ho4, hb_w4⟩
      obtain ⟨hc_w4, hf_w4⟩ := bcell hb_w4; have hz_w4_w_0 : w.heap.size < w4.heap.size := (by have hzz := hb_w4.size; (try simp only [World.size_alloc, World.size_setCell, World.size_drew, World.heap_drewN] at hzz); omega); have hz_w4_w2_0 : w2.heap.size < w4.heap.size := (by have hzz := hb_w4.size; (try simp only [World.size_alloc, World.size_setCell, World.size_drew, World.heap_drewN] at hzz); omega); have hs_w4 := hb_w4.size; (try simp only [World.size_alloc, World.size_setCell, World.size_drew, World.heap_drewN] at hs_w4)
      have hs4' := hb_w4.size
      have y0 := (hc_w4 w.heap.size 0 (by first | omega | (simp; omega) | simp)).trans p0
      have y1 := (hc_w4 w.heap.size 1 (by first | omega | (simp; omega) | simp)).trans p1
      have aO4 := aO.below hb_w4 (by omega)
      obtain ⟨z4, zf4⟩ := id aO4
      have s4 : ∀ V, (w4.setCell ⟨w2.heap.size, 0, none⟩ V).cell? ⟨w2.heap.size, 0, none⟩ = some V := fun V => World.cell?_setCell_same _ _ _ z4
      clear hc_w4 hf_w4
      go_wp2
      go_roundw
      case rel =>
        refine ⟨k + 1, ?_, ?_, A4, cap4, (aO4.set_ _).old (by first | omega | (simp; omega) | simp) _, ?_, ?_, ?_, (by first | omega | (simp; omega) | simp), (by repeat (first | exact Below.refl _ _ | assumption | (refine below_drewN ?_ _) | (refine Below.drew ?_) | (refine Below.alloc ?_ (by first | omega | (simp; omega) | simp) _) | (refine Below.setCell ?_ (by first | omega | (simp; omega) | simp) _) | (refine below_trans ?_ (by assumption) (by first | omega | (simp; omega) | simp))))⟩
        · go_num
        · omega
        · rw [HS.out]; exact ((ho4.far (p := ⟨w2.heap.size, 0, none⟩) (.inl (by first | omega | (simp; omega) | simp)) _).later (by repeat (first | exact Below.refl _ _ | assumption | (refine below_drewN ?_ _) | (refine Below.drew ?_) | (refine Below.alloc ?_ (by first | omega | (simp; omega) | simp) _) | (refine Below.setCell ?_ (by first | omega | (simp; omega) | simp) _) | (refine below_trans ?_ (by assumption) (by first | omega | (simp; omega) | simp))))).row
        · exact (World.cell?_alloc_lt _ _ ⟨_, _, _⟩ (by first | omega | (simp; omega) | simp)).trans ((World.cell?_setCell_other _ _ _ _ (by intro e; injection e; omega)).trans y0)
        · exact (World.cell?_alloc_lt _ _ ⟨_, _, _⟩ (by first | omega | (simp; omega) | simp)).trans ((World.cell?_setCell_other _ _ _ _ (by intro e; injection e; omega)).trans y1)
      case measure => simp [intOf]; omega
    · obtain rfl : k = ws.length := by omega
      generalize wr = wA at *
      have hA : Hid (∀ j, j < ws.length → (stTo m ws ws.length).getD j 0 = ws.getD j 0) := Lib.hid (fun j hj => stTo_at m ws _ j hj (by omega))
      have hLn := length_stTo m ws ws.length
      generalize stTo m ws ws.length = us at aR hA hLn
      obtain ⟨z0, zf⟩ := id aO
      go_wp2_with fail
      go_loopw [78] (fun ii wr => ∃ k : Nat, ii = .int .i64 (k : Nat) ∧ k ≤ ws.length ∧ ∃ Ac capc, Two wr wA.heap.size (.int .i64 N) (.slice Ac k capc) ∧ wr.ownsRow (wA.heap.size + 1) 25 1 (.slice Ac k capc) k (vals (ws.take k)) ∧ wA.heap.size + 1 ≤ wr.heap.size ∧ Below wA.heap.size wA wr) (fun ii _ => ws.length - (intOf ii).toNat)
      case atStart => exact ⟨0, rfl, Nat.zero_le _, none, 0, Two.new wA _ _ _, World.ownsRow_nil _ _ _ _, (by first | omega | (simp; omega) | simp), (by repeat (first | exact Below.refl _ _ | assumption | (refine below_drewN ?_ _) | (refine Below.drew ?_) | (refine Below.alloc ?_ (by first | omega | (simp; omega) | simp) _) | (refine Below.setCell ?_ (by first | omega | (simp; omega) | simp) _) | (refine below_trans ?_ (by assumption) (by first | omega | (simp; omega) | simp))))⟩
      case round =>
        obtain ⟨k, rfl, hk, Ac, capc, tC, oC, hszq, hb_wq⟩ := hrel
        have hsq := hb_wq.size
        have hzq0 : w.heap.size < wr.heap.size := by omega
        have hzq2 : w2.heap.size < wr.heap.size := by omega
        have hzqr : wA.heap.size < wr.heap.size := by omega
        have p0q := ((bcell hb_wq).1 w.heap.size 0 (by omega)).trans p0
        have p1q := ((bcell hb_wq).1 w.heap.size 1 (by omega)).trans p1
        have aOq := aO.below hb_wq (by omega)
        have aRq := aR.later hb_wq
        by_cases hlt : k < ws.length
        · obtain ⟨x, hx⟩ := named ws k
          have hwk : IntKind.u64.wrap (k : Int) = (k : Int) := by rw [IntKind.wrap_u64]; omega
          obtain ⟨z0q, zfq⟩ := id aOq
          have HX : Hid (us.getD k 0 = x) := Lib.hid (by rw [hA.out k hlt, hx.out])
          have HV : Hid (vals (ws.take (k + 1)) = vals (ws.take k) ++ [.int .u64 (x : Nat)]) := Lib.hid (by rw [vals_next ws k hlt, hx.out])
          have HK : Hid ((vals (ws.take k)).length = k) := Lib.hid (by rw [length_vals, List.length_take]; omega)
          go_wp2_with fail
          go_at_call 5
          refine (load_at cap' m k x aRq hLn hm (by omega) HX.out).mono ?_
          rintro e w6 ⟨rfl, hb_w6⟩
          obtain ⟨hc_w6, hf_w6⟩ := bcell hb_w6; have hz_w6_w_0 : w.heap.size < w6.heap.size := (by have hzz := hb_w6.size; (try simp only [World.size_alloc, World.size_setCell, World.size_drew, World.heap_drewN] at hzz); omega); have hz_w6_w2_0 : w2.heap.size < w6.heap.size := (by have hzz := hb_w6.size; (try simp only [World.size_alloc, World.size_setCell, World.size_drew, World.heap_drewN] at hzz); omega); have hz_w6_wA_0 : wA.heap.size < w6.heap.size := (by have hzz := hb_w6.size; (try simp only [World.size_alloc, World.size_setCell, World.size_drew, World.heap_drewN] at hzz); omega); have hs_w6 := hb_w6.size; (try simp only [World.size_alloc, World.size_setCell, World.size_drew, World.heap_drewN] at hs_w6)
          have hs6 := hb_w6.size
          have tC6 := tC.below hb_w6 (by omega)
          have oC6 := owns_later oC hb_w6
          obtain ⟨c0, c1, cf⟩ := id tC6
          clear hc_w6 hf_w6
          go_wp2_with (at_builtin; refine wpList_append_lies _ ?_ (.tmp 91) (.tmp 93) 22 ?_ (wA.heap.size + 1) 25 i0 _ 1 8 Try.underlying22 hi hz0 hz1 hz2 rfl (by omega) (.slice Ac k capc) k (vals (ws.take k)) ?_ (oC6.alloc _) ⟨w6.heap.size, 0, none⟩ 1 1 [.int .u64 (x : Nat)] ?_ (by simp) ?_ (by simp [Value.oneCell']) (by omega) (by unfold maxLen; omega) (by omega) (by first | omega | (simp; omega) | simp) _ rfl ?_; rfl; rfl; rfl; rfl; (intro j u hj; have hj0 : j = 0 := (by cases j with | zero => rfl | succ j => simp at hj); subst hj0; simp at hj; subst hj; rw [add_form]; simp [go_sem]); intro g cap7 w7 hown7 hg7 hat7 hlt7; have hb_w7 : Below (wA.heap.size + 1) _ w7 := (Below.refl _ _).grown hg7 (by first | omega | (simp; omega) | simp) (fun b hb => oC6.lt b hb |>.1); have hs7 := hb_w7.size; (try simp only [World.size_alloc] at hs7); have tC7 := (tC6.old (by first | omega | (simp; omega) | simp) (.cells #[.int .u64 (x : Nat)] 25)).below hb_w7 (by first | omega | (simp; omega) | simp); obtain ⟨d0, d1, df⟩ := id tC7)
          go_roundw
          case rel =>
            refine ⟨k + 1, ?_, ?_, some ⟨g, 0, none⟩, cap7, tC7.set1 _, ?_, (by first | omega | (simp; omega) | simp), (by repeat (first | exact Below.refl _ _ | assumption | (refine below_drewN ?_ _) | (refine Below.drew ?_) | (refine Below.alloc ?_ (by first | omega | (simp; omega) | simp) _) | (refine Below.setCell ?_ (by first | omega | (simp; omega) | simp) _) | (refine below_trans ?_ (by assumption) (by first | omega | (simp; omega) | simp))))⟩
            · go_num
            · omega
            · rw [HV.out]; exact ownsRow_setCell_below hown7 (Nat.lt_succ_self _) _
          case measure => simp [intOf]; omega
        · obtain rfl : k = ws.length := by omega
          have rC : Row wr wr.heap.size Ac ws := by
            have := row_of_owns oC (by rw [List.length_take]; omega) (fun x hx => hr.words x (List.mem_of_mem_take hx))
            rwa [List.take_length] at this
          obtain ⟨z0q, zfq⟩ := id aOq
          obtain ⟨c0, c1, cf⟩ := id tC
          have hrq : Row wr wr.heap.size A ws := (hr.later hb_wr).later hb_wq
          go_wp2_with fail
          go_at_call 18
          refine (HG.out _ _ _ (hrq.later (by repeat (first | exact Below.refl _ _ | assumption | (refine below_drewN ?_ _) | (refine Below.drew ?_) | (refine Below.alloc ?_ (by first | omega | (simp; omega) | simp) _) | (refine Below.setCell ?_ (by first | omega | (simp; omega) | simp) _) | (refine below_trans ?_ (by assumption) (by first | omega | (simp; omega) | simp)))))).mono ?_
          rintro e w10 ⟨rfl, hb_w10⟩
          obtain ⟨hc_w10, hf_w10⟩ := bcell hb_w10; have hz_w10_w_0 : w.heap.size < w10.heap.size := (by have hzz := hb_w10.size; (try simp only [World.size_alloc, World.size_setCell, World.size_drew, World.heap_drewN] at hzz); omega); have hz_w10_w2_0 : w2.heap.size < w10.heap.size := (by have hzz := hb_w10.size; (try simp only [World.size_alloc, World.size_setCell, World.size_drew, World.heap_drewN] at hzz); omega); have hz_w10_wA_0 : wA.heap.size < w10.heap.size := (by have hzz := hb_w10.size; (try simp only [World.size_alloc, World.size_setCell, World.size_drew, World.heap_drewN] at hzz); omega); have hs_w10 := hb_w10.size; (try simp only [World.size_alloc, World.size_setCell, World.size_drew, World.heap_drewN] at hs_w10)
          go_wp2_with fail
          go_at_call 18
          refine (HG.out _ _ _ (rC.later (by repeat (first | exact Below.refl _ _ | assumption | (refine below_drewN ?_ _) | (refine Below.drew ?_) | (refine Below.alloc ?_ (by first | omega | (simp; omega) | simp) _) | (refine Below.setCell ?_ (by first | omega | (simp; omega) | simp) _) | (refine below_trans ?_ (by assumption) (by first | omega | (simp; omega) | simp)))))).mono ?_
          rintro e w11 ⟨rfl, hb_w11⟩
          obtain ⟨hc_w11, hf_w11⟩ := bcell hb_w11; have hz_w11_w_0 : w.heap.size < w11.heap.size := (by have hzz := hb_w11.size; (try simp only [World.size_alloc, World.size_setCell, World.size_drew, World.heap_drewN] at hzz); omega); have hz_w11_w2_0 : w2.heap.size < w11.heap.size := (by have hzz := hb_w11.size; (try simp only [World.size_alloc, World.size_setCell, World.size_drew, World.heap_drewN] at hzz); omega); have hz_w11_wA_0 : wA.heap.size < w11.heap.size := (by have hzz := hb_w11.size; (try simp only [World.size_alloc, World.size_setCell, World.size_drew, World.heap_drewN] at hzz); omega); have hs_w11 := hb_w11.size; (try simp only [World.size_alloc, World.size_setCell, World.size_drew, World.heap_drewN] at hs_w11)
          go_wp2_with fail
          go_at_call 19
          refine (count_ok cap (hrq.later (by repeat (first | exact Below.refl _ _ | assumption | (refine below_drewN ?_ _) | (refine Below.drew ?_) | (refine Below.alloc ?_ (by first | omega | (simp; omega) | simp) _) | (refine Below.setCell ?_ (by first | omega | (simp; omega) | simp) _) | (refine below_trans ?_ (by assumption) (by first | omega | (simp; omega) | simp))))) hR.out).mono ?_
          rintro e w12 ⟨rfl, hb_w12⟩
          obtain ⟨hc_w12, hf_w12⟩ := bcell hb_w12; have hz_w12_w_0 : w.heap.size < w12.heap.size := (by have hzz := hb_w12.size; (try simp only [World.size_alloc, World.size_setCell, World.size_drew, World.heap_drewN] at hzz); omega); have hz_w12_w2_0 : w2.heap.size < w12.heap.size := (by have hzz := hb_w12.size; (try simp only [World.size_alloc, World.size_setCell, World.size_drew, World.heap_drewN] at hzz); omega); have hz_w12_wA_0 : wA.heap.size < w12.heap.size := (by have hzz := hb_w12.size; (try simp only [World.size_alloc, World.size_setCell, World.size_drew, World.heap_drewN] at hzz); omega); have hs_w12 := hb_w12.size; (try simp only [World.size_alloc, World.size_setCell, World.size_drew, World.heap_drewN] at hs_w12)
          rw [hct.out]
          go_wp2_with fail
          go_at_call 19
          refine (count_ok _ (rC.later (by repeat (first | exact Below.refl _ _ | assumption | (refine below_drewN ?_ _) | (refine Below.drew ?_) | (refine Below.alloc ?_ (by first | omega | (simp; omega) | simp) _) | (refine Below.setCell ?_ (by first | omega | (simp; omega) | simp) _) | (refine below_trans ?_ (by assumption) (by first | omega | (simp; omega) | simp))))) hR.out).mono ?_
          rintro e w13 ⟨rfl, hb_w13⟩
          obtain ⟨hc_w13, hf_w13⟩ := bcell hb_w13; have hz_w13_w_0 : w.heap.size < w13.heap.size := (by have hzz := hb_w13.size; (try simp only [World.size_alloc, World.size_setCell, World.size_drew, World.heap_drewN] at hzz); omega); have hz_w13_w2_0 : w2.heap.size < w13.heap.size := (by have hzz := hb_w13.size; (try simp only [World.size_alloc, World.size_setCell, World.size_drew, World.heap_drewN] at hzz); omega); have hz_w13_wA_0 : wA.heap.size < w13.heap.size := (by have hzz := hb_w13.size; (try simp only [World.size_alloc, World.size_setCell, World.size_drew, World.heap_drewN] at hzz); omega); have hs_w13 := hb_w13.size; (try simp only [World.size_alloc, World.size_setCell, World.size_drew, World.heap_drewN] at hs_w13)
          rw [hct.out]
          have hwm : IntKind.u64.wrap (m : Int) = (m : Int) := by rw [IntKind.wrap_u64]; omega
          go_wp2_with fail
          go_at_call 20
          refine (clear_all cap' m (aRq.later (by repeat (first | exact Below.refl _ _ | assumption | (refine below_drewN ?_ _) | (refine Below.drew ?_) | (refine Below.alloc ?_ (by first | omega | (simp; omega) | simp) _) | (refine Below.setCell ?_ (by first | omega | (simp; omega) | simp) _) | (refine below_trans ?_ (by assumption) (by first | omega | (simp; omega) | simp))))) hLn hm).mono ?_
          rintro e w14 ⟨A14, cap14, rfl, ho14, hb_w14⟩
          obtain ⟨hc_w14, hf_w14⟩ := bcell hb_w14; have hz_w14_w_0 : w.heap.size < w14.heap.size := (by have hzz := hb_w14.size; (try simp only [World.size_alloc, World.size_setCell, World.size_drew, World.heap_drewN] at hzz); omega); have hz_w14_w2_0 : w2.heap.size < w14.heap.size := (by have hzz := hb_w14.size; (try simp only [World.size_alloc, World.size_setCell, World.size_drew, World.heap_drewN] at hzz); omega); have hz_w14_wA_0 : wA.heap.size < w14.heap.size := (by have hzz := hb_w14.size; (try simp only [World.size_alloc, World.size_setCell, World.size_drew, World.heap_drewN] at hzz); omega); have hs_w14 := hb_w14.size; (try simp only [World.size_alloc, World.size_setCell, World.size_drew, World.heap_drewN] at hs_w14)
          have hzero : (overTo us 0 (fun _ => 0) m).getD 0 0 = 0 := by
            rw [overTo_at]
            by_cases h0 : 0 < m
            · rw [if_pos (by omega)]
            · rw [if_neg (by omega), List.getD_eq_getElem?_getD, List.getElem?_eq_none (by omega)]
              rfl
          have hlz : (overTo us 0 (fun _ => 0) m).length = m := by rw [length_overTo]; exact hLn
          generalize overTo us 0 (fun _ => 0) m = zs at ho14 hzero hlz
          have HZ := Lib.hid hzero
          have HL := Lib.hid hlz
          clear hzero hlz
          by_cases h0 : 0 < m
          · have hd1 : decide ((0 : Int) < (m : Nat)) = true := decide_eq_true (by omega)
            go_wp2_with fail
            go_at_call 7
            refine (sum_zero cap14 m 1 (ho14.row.later (by repeat (first | exact Below.refl _ _ | assumption | (refine below_drewN ?_ _) | (refine Below.drew ?_) | (refine Below.alloc ?_ (by first | omega | (simp; omega) | simp) _) | (refine Below.setCell ?_ (by first | omega | (simp; omega) | simp) _) | (refine below_trans ?_ (by assumption) (by first | omega | (simp; omega) | simp))))) (row_zero2 _ _) HL.out hm HZ.out 0 (.inl ⟨h0, rfl⟩)).mono ?_
            rintro e w15 ⟨rfl, hb_w15⟩
            go_wp2
            go_ret
            exact ⟨rfl, (by repeat (first | exact Below.refl _ _ | assumption | (refine below_drewN ?_ _) | (refine Below.drew ?_) | (refine Below.alloc ?_ (by first | omega | (simp; omega) | simp) _) | (refine Below.setCell ?_ (by first | omega | (simp; omega) | simp) _) | (refine below_trans ?_ (by assumption) (by first | omega | (simp; omega) | simp))))⟩
          · have hd1 : decide ((0 : Int) < (m : Nat)) = false := decide_eq_false (by omega)
            go_wp2_with fail
            go_at_call 7
            refine (sum_zero cap14 m 1 (ho14.row.later (by repeat (first | exact Below.refl _ _ | assumption | (refine below_drewN ?_ _) | (refine Below.drew ?_) | (refine Below.alloc ?_ (by first | omega | (simp; omega) | simp) _) | (refine Below.setCell ?_ (by first | omega | (simp; omega) | simp) _) | (refine below_trans ?_ (by assumption) (by first | omega | (simp; omega) | simp))))) (row_zero2 _ _) HL.out hm HZ.out 1 (.inr ⟨by omega, rfl⟩)).mono ?_
            rintro e w15 ⟨rfl, hb_w15⟩
            go_wp2
            go_ret
            exact ⟨rfl, (by repeat (first | exact Below.refl _ _ | assumption | (refine below_drewN ?_ _) | (refine Below.drew ?_) | (refine Below.alloc ?_ (by first | omega | (simp; omega) | simp) _) | (refine Below.setCell ?_ (by first | omega | (simp; omega) | simp) _) | (refine below_trans ?_ (by assumption) (by first | omega | (simp; omega) | simp))))⟩
end Go.Proofs.Ytofkdpgnngbkfaa
