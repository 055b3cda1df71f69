/- Contracts of package asm: read, whatever a line is. -/
import Derived.Test.YtggaijdbaplfiaaGreatDoorAs21
namespace Go.Proofs.YtggaijdbaplfiaaGreatDoor
open Go.RowKit
set_option linter.unusedVariables false
set_option linter.unusedSimpArgs false
section
variable {w : World}
set_option maxRecDepth 100000 in
set_option maxHeartbeats 16000000 in
theorem aread_b (b B g M : Nat) (lb : Lbs) (cs : Cms) (h : RD w B g M lb cs) (hok : LbOk lb) (hl : lb.length ≤ 100000) (hc : cs.length ≤ 256) (hbg : b ≤ g) (hbM : b ≤ M) (s : ByteArray) (hs : s.size ≤ 65536) (i : Nat) (hL : Lw w) (hne : s.data.toList ≠ []) (hsf : Lib.hasSuffix s.data.toList [58] = true) (hlb : isLab (Lib.trimSuffix s.data.toList [58]) = false) :
    Calls Tryz.prog 21 #[.pointer (some ⟨g, 0, none⟩), .string s, .int .i64 (i : Nat)] w fun e w' => e = .returned (.int .i64 (stepS s.data.toList i lb cs).1) ∧ ((stepS s.data.toList i lb cs).1 = 0 → RD w' B g M (stepS s.data.toList i lb cs).2.1 (stepS s.data.toList i lb cs).2.2) ∧ Kp b B g M w w' := by
  have hgB := h.gB
  have hMB := h.MB
  have hgM := h.gM
  have hBw := h.Bw
  have hgw : g < w.heap.size := by omega
  have hbw : b ≤ w.heap.size := by omega
  obtain ⟨A, cap, c1, hrow⟩ := h.row
  have c0 := h.c0
  have OM := Lib.hid h.map
  have HRD := Lib.hid h
  have hgwB : g < B := h.gB
  have HROW := Lib.hid hrow
  have HPA := Lib.hid fun (W : World) hL => parse_any (w := W) s hs hL
  unfold ParsR at HPA
  have hie : s.toList.isEmpty = false := by rw [ByteArray.toList_eq]; simpa using hne
  have HCU := Lib.hid fun (W : World) => cutS_any (w := W) s hs
  rw [hsf] at HCU
  have HIL := Lib.hid fun (W : World) => isLabel_any (w := W) (bs (Lib.trimSuffix s.data.toList [58]))
  rw [bs_data, hlb] at HIL
  have hstep : stepS s.data.toList i lb cs = match parseS s.data.toList with
    | none => (2, lb, cs)
    | some c => if 256 ≤ cs.length then (6, lb, cs) else (0, lb, cs ++ [(c.1, c.2, i)]) := by
    unfold stepS isDef
    rw [if_neg hne, hsf, hlb]
    rfl
  have HST := Lib.hid hstep
  clear hrow h hstep hne hsf hlb
  cases hps : parseS s.data.toList with
  | none =>
    have hst := HST.out
    rw [hps] at hst HPA
    have HS2 := Lib.hid hst
    have HP2 : Hid (∀ W, Lw W → Calls Tryz.prog 40 #[.string s] W fun e w' => e = .returned (.tuple #[.agg #[.int .u8 0, .int .u8 0, .int .i64 0, .int .i64 0, .int .i64 0, .int .i64 0, .int .u64 0, .int .u64 0, .int .i64 0, .int .i64 0, .int .i64 0, .string ⟨#[]⟩, .int .i64 0], .bool false]) ∧ Below W.heap.size W w') := Lib.hid fun W hL => HPA.out W hL
    clear hst HST HPA hps
    go_enter Tryz.func21, Tryz.ntmps21
    go_wp2_with fail
    go_at_call 37
    refine (HCU.out _).mono ?_
    rintro e w0 ⟨rfl, rfl⟩
    go_wp2_with fail
    go_at_call 38
    refine (HIL.out _).mono ?_
    rintro e w0 ⟨rfl, rfl⟩
    go_wp2_with fail
    go_at_call 40
    refine (HP2.out _ hL).mono ?_
    rintro e w1 ⟨rfl, hb_w1⟩
    obtain ⟨hc_w1, hf_w1⟩ := bcell hb_w1; have hs_w1 := hb_w1.size; (try simp only [World.size_alloc, World.size_setCell, World.size_drew, World.heap_drewN] at hs_w1)
    go_wp2
    go_ret
    rw [HS2.out]
    exact ⟨rfl, fun h => by simp at h, Kp.of (by repeat (first | exact Below.refl _ _ | assumption | (refine below_drewN ?_ _) | (refine Below.drew ?_) | (refine Below.alloc ?_ (by first | omega | (simp; omega) | simp) _) | (refine Below.setCell ?_ (by first | omega | (simp; omega) | simp) _) | (refine below_trans ?_ (by assumption) (by first | omega | (simp; omega) | simp)))) hbw hBw⟩
  | some c =>
    obtain ⟨x, gl⟩ := c
    have hst := HST.out
    rw [hps] at hst HPA
    have HP2 : Hid (∀ W, Lw W → Calls Tryz.prog 40 #[.string s] W fun e w' => e = .returned (.tuple #[.agg #[.int .u8 x.kd, .int .u8 x.op, .int .i64 x.oa, .int .i64 x.ob, .int .i64 x.fd, .int .i64 x.n, .int .u64 x.m, .int .u64 x.w, .int .i64 x.a, .int .i64 x.b, .int .i64 x.to, .string (bs gl), .int .i64 0], .bool true]) ∧ Below W.heap.size W w') := Lib.hid fun W hL => HPA.out W hL
    simp only at hst
    by_cases hfull : 256 ≤ cs.length
    · have d1 : decide (256 ≤ (cs.length : Int)) = true := decide_eq_true (by omega)
      rw [if_pos hfull] at hst
      have HS2 := Lib.hid hst
      clear hst HST HPA hps hfull
      go_enter Tryz.func21, Tryz.ntmps21
      go_wp2_with fail
      go_at_call 37
      refine (HCU.out _).mono ?_
      rintro e w0 ⟨rfl, rfl⟩
      go_wp2_with fail
      go_at_call 38
      refine (HIL.out _).mono ?_
      rintro e w0 ⟨rfl, rfl⟩
      go_wp2_with fail
      go_at_call 40
      refine (HP2.out _ hL).mono ?_
      rintro e w1 ⟨rfl, hb_w1⟩
      obtain ⟨hc_w1, hf_w1⟩ := bcell hb_w1; have hs_w1 := hb_w1.size; (try simp only [World.size_alloc, World.size_setCell, World.size_drew, World.heap_drewN] at hs_w1)
      have g11 : w1.cell? ⟨g, 1, none⟩ = some (.slice A cs.length cap) := ((bcell hb_w1).1 g 1 hgw).trans c1
      have hgw1 : g < w1.heap.size := by have := hb_w1.size; omega
      go_wp2
      go_ret
      rw [HS2.out]
      exact ⟨rfl, fun h => by simp at h, Kp.of (by repeat (first | exact Below.refl _ _ | assumption | (refine below_drewN ?_ _) | (refine Below.drew ?_) | (refine Below.alloc ?_ (by first | omega | (simp; omega) | simp) _) | (refine Below.setCell ?_ (by first | omega | (simp; omega) | simp) _) | (refine below_trans ?_ (by assumption) (by first | omega | (simp; omega) | simp)))) hbw hBw⟩
    · have d1 : decide (256 ≤ (cs.length : Int)) = false := decide_eq_false (by omega)
      rw [if_neg hfull] at hst
      have HS2 := Lib.hid hst
      clear hst HST HPA hps
      go_enter Tryz.func21, Tryz.ntmps21
      go_wp2_with fail
      go_at_call 37
      refine (HCU.out _).mono ?_
      rintro e w0 ⟨rfl, rfl⟩
      go_wp2_with fail
      go_at_call 38
      refine (HIL.out _).mono ?_
      rintro e w0 ⟨rfl, rfl⟩
      go_wp2_with fail
      go_at_call 40
      refine (HP2.out _ hL).mono ?_
      rintro e w1 ⟨rfl, hb_w1⟩
      obtain ⟨hc_w1, hf_w1⟩ := bcell hb_w1; have hs_w1 := hb_w1.size; (try simp only [World.size_alloc, World.size_setCell, World.size_drew, World.heap_drewN] at hs_w1)
      have g10 : w1.cell? ⟨g, 0, none⟩ = some (.map (some M)) := ((bcell hb_w1).1 g 0 hgw).trans c0
      have g11 : w1.cell? ⟨g, 1, none⟩ = some (.slice A cs.length cap) := ((bcell hb_w1).1 g 1 hgw).trans c1
      have hgw1 : g < w1.heap.size := by have := hb_w1.size; omega
      have ngx : ¬ g = w1.heap.size := by omega
      have HROW1 := Lib.hid (owns_laterC HROW.out hb_w1)
      have hAb : Hid (some w1.heap.size ≠ A.map fun a => a.block) := Lib.hid fun e => by
        cases A with
        | none => simp at e
        | some a =>
          simp only [Option.map_some, Option.some.injEq] at e
          have := HROW1.out.lt a.block rfl
          omega
      go_wp2_with fail
      refine wp_region_held_drew (S := (fun X : World => X.cell? ⟨w1.heap.size, 0, none⟩ = some (.int .u8 x.kd) ∧ X.cell? ⟨w1.heap.size, 1, none⟩ = some (.int .u8 x.op) ∧ X.cell? ⟨w1.heap.size, 2, none⟩ = some (.int .i64 x.oa) ∧ X.cell? ⟨w1.heap.size, 3, none⟩ = some (.int .i64 x.ob) ∧ X.cell? ⟨w1.heap.size, 4, none⟩ = some (.int .i64 x.fd) ∧ X.cell? ⟨w1.heap.size, 5, none⟩ = some (.int .i64 x.n) ∧ X.cell? ⟨w1.heap.size, 6, none⟩ = some (.int .u64 x.m) ∧ X.cell? ⟨w1.heap.size, 7, none⟩ = some (.int .u64 x.w) ∧ X.cell? ⟨w1.heap.size, 8, none⟩ = some (.int .i64 x.a) ∧ X.cell? ⟨w1.heap.size, 9, none⟩ = some (.int .i64 x.b) ∧ X.cell? ⟨w1.heap.size, 10, none⟩ = some (.int .i64 x.to) ∧ X.cell? ⟨w1.heap.size, 11, none⟩ = some (.string (bs gl)) ∧ X.cell? ⟨w1.heap.size, 12, none⟩ = some (.int .i64 (i : Nat)))) (by kernel_rfl) ?_ (fun hHeld => ?_)
      · (try dsimp only); refine ⟨?_, ?_, ?_, ?_, ?_, ?_, ?_, ?_, ?_, ?_, ?_, ?_, ?_⟩ <;> first | assumption | (simp [go_sem]; done) | exact (World.cell?_alloc_lt _ _ ⟨_, _, _⟩ (by first | omega | (simp; omega) | simp)).trans (by assumption) | (simp [go_sem, ngx]; first | done | assumption)
      refine wpAnyH_take (i := 0) (v := ?_) rfl (by kernel_rfl) (by kernel_rfl) (by kernel_rfl) (fun _ _ _ h => h) (Or.inl ⟨by rfl, ?_⟩) (by assumption) ?_
      rotate_left
      · (intro w hSw; (try dsimp only at hSw); go_simp; first | done | with_reducible rfl)
      try simp only [Act.put, List.getElem_toArray, List.getElem_cons_zero, List.getElem_cons_succ, List.setIfInBounds_toArray, List.set_cons_zero, List.set_cons_succ]
      refine wpAnyH_take (i := 1) (v := ?_) rfl (by kernel_rfl) (by kernel_rfl) (by kernel_rfl) (fun _ _ _ h => h) (Or.inl ⟨by rfl, ?_⟩) (by assumption) ?_
      rotate_left
      · (intro w hSw; (try dsimp only at hSw); go_simp; first | done | with_reducible rfl)
      try simp only [Act.put, List.getElem_toArray, List.getElem_cons_zero, List.getElem_cons_succ, List.setIfInBounds_toArray, List.set_cons_zero, List.set_cons_succ]
      refine wpAnyH_take (i := 2) (v := ?_) rfl (by kernel_rfl) (by kernel_rfl) (by kernel_rfl) (fun _ _ _ h => h) (Or.inl ⟨by rfl, ?_⟩) (by assumption) ?_
      rotate_left
      · (intro w hSw; (try dsimp only at hSw); go_simp; first | done | with_reducible rfl)
      try simp only [Act.put, List.getElem_toArray, List.getElem_cons_zero, List.getElem_cons_succ, List.setIfInBounds_toArray, List.set_cons_zero, List.set_cons_succ]
      refine wpAnyH_take (i := 3) (v := ?_) rfl (by kernel_rfl) (by kernel_rfl) (by kernel_rfl) (fun _ _ _ h => h) (Or.inl ⟨by rfl, ?_⟩) (by assumption) ?_
      rotate_left
      · (intro w hSw; (try dsimp only at hSw); go_simp; first | done | with_reducible rfl)
      try simp only [Act.put, List.getElem_toArray, List.getElem_cons_zero, List.getElem_cons_succ, List.setIfInBounds_toArray, List.set_cons_zero, List.set_cons_succ]
      refine wpAnyH_take (i := 5) (v := ?_) rfl (by kernel_rfl) (by kernel_rfl) (by kernel_rfl) (fun _ _ _ h => h) (Or.inl ⟨by rfl, ?_⟩) (by assumption) ?_
      rotate_left
      · (intro w hSw; (try dsimp only at hSw); go_simp; first | done | with_reducible rfl)
      try simp only [Act.put, List.getElem_toArray, List.getElem_cons_zero, List.getElem_cons_succ, List.setIfInBounds_toArray, List.set_cons_zero, List.set_cons_succ]
      refine wpAnyH_ready (rs := [4, 6]) (by kernel_rfl) (by simp) ?_
      refine AllReadyH.cons rfl (fun K hK => ?_) (AllReadyH.cons rfl (fun K hK => ?_) AllReadyH.nil)
      · try simp only [List.getElem_toArray, List.getElem_cons_zero, List.getElem_cons_succ]
        go_simp
        refine hK.out _ _ ?_ (fun hHeld => ?_)
        · (try dsimp only); refine ⟨?_, ?_, ?_, ?_, ?_, ?_, ?_, ?_, ?_, ?_, ?_, ?_, ?_⟩ <;> first | assumption | (simp [go_sem]; done) | exact (World.cell?_alloc_lt _ _ ⟨_, _, _⟩ (by first | omega | (simp; omega) | simp)).trans (by assumption) | (simp [go_sem, ngx]; first | done | assumption)
        clear hK K
        try simp only [Act.put, List.getElem_toArray, List.getElem_cons_zero, List.getElem_cons_succ, List.setIfInBounds_toArray, List.set_cons_zero, List.set_cons_succ]
        refine wpAnyH_ready (rs := [6]) (by kernel_rfl) (by simp) ?_
        refine AllReadyH.cons rfl (fun K hK => ?_) AllReadyH.nil
        try simp only [List.getElem_toArray, List.getElem_cons_zero, List.getElem_cons_succ]
        go_simp
        refine hK.out _ _ ?_ (fun hHeld => ?_)
        · (try dsimp only); refine ⟨?_, ?_, ?_, ?_, ?_, ?_, ?_, ?_, ?_, ?_, ?_, ?_, ?_⟩ <;> first | assumption | (simp [go_sem]; done) | exact (World.cell?_alloc_lt _ _ ⟨_, _, _⟩ (by first | omega | (simp; omega) | simp)).trans (by assumption) | (simp [go_sem, ngx]; first | done | assumption)
        clear hK K
        try simp only [Act.put, List.getElem_toArray, List.getElem_cons_zero, List.getElem_cons_succ, List.setIfInBounds_toArray, List.set_cons_zero, List.set_cons_succ]
        refine wpAnyH_ready (rs := [7]) (by kernel_rfl) (by simp) ?_
        refine AllReadyH.cons rfl (fun K hK => ?_) AllReadyH.nil
        try simp only [List.getElem_toArray, List.getElem_cons_zero, List.getElem_cons_succ]
        rw [if_pos (by rfl)]
        refine wp_appendC (.tmp 45) (.tmp 47) (by rfl) B A cap cs.length (flatC cs) (by rfl) (show (((w1.alloc (.cells #[.int .u8 x.kd, .int .u8 x.op, .int .i64 x.oa, .int .i64 x.ob, .int .i64 x.fd, .int .i64 x.n, .int .u64 x.m, .int .u64 x.w, .int .i64 x.a, .int .i64 x.b, .int .i64 x.to, .string (bs gl), .int .i64 (i : Nat)] 74)).alloc (.cells #[.int .u8 x.kd, .int .u8 x.op, .int .i64 x.oa, .int .i64 x.ob, .int .i64 x.fd, .int .i64 x.n, .int .u64 x.m, .int .u64 x.w, .int .i64 x.a, .int .i64 x.b, .int .i64 x.to, .string (bs gl), .int .i64 (i : Nat)] 74)).drew).ownsRow B 74 13 (.slice A cs.length cap) cs.length (flatC cs) from owns_laterC HROW1.out (by repeat (first | exact Below.refl _ _ | assumption | (refine below_drewN ?_ _) | (refine Below.drew ?_) | (refine Below.alloc ?_ (by first | omega | (simp; omega) | simp) _) | (refine Below.setCell ?_ (by first | omega | (simp; omega) | simp) _) | (refine below_trans ?_ (by assumption) (by first | omega | (simp; omega) | simp))))) (some ⟨w1.heap.size + 1, 0, none⟩) 1 1 (cmc (x, gl, i)) (by rfl) rfl (fun _ => ⟨w1.heap.size + 1, 0, rfl, fun j u hj => fl_liesG (w1.alloc (.cells #[.int .u8 x.kd, .int .u8 x.op, .int .i64 x.oa, .int .i64 x.ob, .int .i64 x.fd, .int .i64 x.n, .int .u64 x.m, .int .u64 x.w, .int .i64 x.a, .int .i64 x.b, .int .i64 x.to, .string (bs gl), .int .i64 (i : Nat)] 74)) (w1.heap.size + 1) (by simp) (cmc (x, gl, i)) 74 j u hj⟩) (cmc_one _) (by omega) (by simp; omega) ?_
        intro A7 cap7 w7 hown7 hg7 hb_w7 hat7
        have HW7 := Lib.hid hown7
        have HG7 := Lib.hid hg7
        have HB7 := Lib.hid hb_w7
        have hs7 := hb_w7.size
        obtain ⟨g17, z17⟩ := read_mid HRD.out hgwB hb_w1 c1 HROW.out hg7
        have hx7 : ∀ o, w7.cell? ⟨w1.heap.size, o, none⟩ = (((w1.alloc (.cells #[.int .u8 x.kd, .int .u8 x.op, .int .i64 x.oa, .int .i64 x.ob, .int .i64 x.fd, .int .i64 x.n, .int .u64 x.m, .int .u64 x.w, .int .i64 x.a, .int .i64 x.b, .int .i64 x.to, .string (bs gl), .int .i64 (i : Nat)] 74)).alloc (.cells #[.int .u8 x.kd, .int .u8 x.op, .int .i64 x.oa, .int .i64 x.ob, .int .i64 x.fd, .int .i64 x.n, .int .u64 x.m, .int .u64 x.w, .int .i64 x.a, .int .i64 x.b, .int .i64 x.to, .string (bs gl), .int .i64 (i : Nat)] 74)).drew).cell? ⟨w1.heap.size, o, none⟩ := fun o => World.cell?_of_block (hg7.block w1.heap.size (by simp [go_sem]) hAb.out)
        have n70 : w7.cell? ⟨w1.heap.size, 0, none⟩ = some (.int .u8 x.kd) := (hx7 0).trans (by simp [go_sem])
        have n71 : w7.cell? ⟨w1.heap.size, 1, none⟩ = some (.int .u8 x.op) := (hx7 1).trans (by simp [go_sem])
        have n72 : w7.cell? ⟨w1.heap.size, 2, none⟩ = some (.int .i64 x.oa) := (hx7 2).trans (by simp [go_sem])
        have n73 : w7.cell? ⟨w1.heap.size, 3, none⟩ = some (.int .i64 x.ob) := (hx7 3).trans (by simp [go_sem])
        have n74 : w7.cell? ⟨w1.heap.size, 4, none⟩ = some (.int .i64 x.fd) := (hx7 4).trans (by simp [go_sem])
        have n75 : w7.cell? ⟨w1.heap.size, 5, none⟩ = some (.int .i64 x.n) := (hx7 5).trans (by simp [go_sem])
        have n76 : w7.cell? ⟨w1.heap.size, 6, none⟩ = some (.int .u64 x.m) := (hx7 6).trans (by simp [go_sem])
        have n77 : w7.cell? ⟨w1.heap.size, 7, none⟩ = some (.int .u64 x.w) := (hx7 7).trans (by simp [go_sem])
        have n78 : w7.cell? ⟨w1.heap.size, 8, none⟩ = some (.int .i64 x.a) := (hx7 8).trans (by simp [go_sem])
        have n79 : w7.cell? ⟨w1.heap.size, 9, none⟩ = some (.int .i64 x.b) := (hx7 9).trans (by simp [go_sem])
        have n710 : w7.cell? ⟨w1.heap.size, 10, none⟩ = some (.int .i64 x.to) := (hx7 10).trans (by simp [go_sem])
        have n711 : w7.cell? ⟨w1.heap.size, 11, none⟩ = some (.string (bs gl)) := (hx7 11).trans (by simp [go_sem])
        have n712 : w7.cell? ⟨w1.heap.size, 12, none⟩ = some (.int .i64 (i : Nat)) := (hx7 12).trans (by simp [go_sem])
        clear hown7 hg7 hb_w7 hat7 hx7
        refine hK.out _ _ ?_ (fun hHeld => ?_)
        · (try dsimp only); refine ⟨?_, ?_, ?_, ?_, ?_, ?_, ?_, ?_, ?_, ?_, ?_, ?_, ?_⟩ <;> first | assumption | (simp [go_sem]; done) | exact (World.cell?_alloc_lt _ _ ⟨_, _, _⟩ (by first | omega | (simp; omega) | simp)).trans (by assumption) | (simp [go_sem, ngx]; first | done | assumption)
        clear hK K
        try simp only [Act.put, List.getElem_toArray, List.getElem_cons_zero, List.getElem_cons_succ, List.setIfInBounds_toArray, List.set_cons_zero, List.set_cons_succ]
        refine wpAnyH_take (i := 8) (v := ?_) rfl (by kernel_rfl) (by kernel_rfl) (by kernel_rfl) (fun _ _ _ h => h) (Or.inl ⟨by rfl, ?_⟩) (by assumption) ?_
        rotate_left
        · (intro w hSw; (try dsimp only at hSw); go_simp; first | done | with_reducible rfl)
        try simp only [Act.put, List.getElem_toArray, List.getElem_cons_zero, List.getElem_cons_succ, List.setIfInBounds_toArray, List.set_cons_zero, List.set_cons_succ]
        refine wpAnyH_take (i := 9) (v := ?_) rfl (by kernel_rfl) (by kernel_rfl) (by kernel_rfl) (fun _ _ _ h => h) (Or.inl ⟨by rfl, ?_⟩) (by assumption) ?_
        rotate_left
        · (intro w hSw; (try dsimp only at hSw); go_simp; first | done | with_reducible rfl)
        try simp only [Act.put, List.getElem_toArray, List.getElem_cons_zero, List.getElem_cons_succ, List.setIfInBounds_toArray, List.set_cons_zero, List.set_cons_succ]
        refine wpAnyH_ready (rs := [10]) (by kernel_rfl) (by simp) ?_
        refine AllReadyH.cons rfl (fun K hK => ?_) AllReadyH.nil
        try simp only [List.getElem_toArray, List.getElem_cons_zero, List.getElem_cons_succ]
        go_simp
        refine hK.out _ _ ?_ (fun hHeld => ?_)
        · (try dsimp only); refine ⟨?_, ?_, ?_, ?_, ?_, ?_, ?_, ?_, ?_, ?_, ?_, ?_, ?_⟩ <;> first | assumption | (simp [go_sem]; done) | exact (World.cell?_alloc_lt _ _ ⟨_, _, _⟩ (by first | omega | (simp; omega) | simp)).trans (by assumption) | (simp [go_sem, ngx]; first | done | assumption)
        clear hK K
        try simp only [Act.put, List.getElem_toArray, List.getElem_cons_zero, List.getElem_cons_succ, List.setIfInBounds_toArray, List.set_cons_zero, List.set_cons_succ]
        refine wpAnyH_done (by kernel_rfl) ?_ _
        go_wp2
        go_ret
        rw [HS2.out]
        obtain ⟨q1, q2⟩ := read_done (x, gl, i) b hbg hbM HRD.out hb_w1 HROW.out HW7.out HG7.out HB7.out
        exact ⟨rfl, fun _ => q1, q2⟩
      · try simp only [List.getElem_toArray, List.getElem_cons_zero, List.getElem_cons_succ]
        go_simp
        refine hK.out _ _ ?_ (fun hHeld => ?_)
        · (try dsimp only); refine ⟨?_, ?_, ?_, ?_, ?_, ?_, ?_, ?_, ?_, ?_, ?_, ?_, ?_⟩ <;> first | assumption | (simp [go_sem]; done) | exact (World.cell?_alloc_lt _ _ ⟨_, _, _⟩ (by first | omega | (simp; omega) | simp)).trans (by assumption) | (simp [go_sem, ngx]; first | done | assumption)
        clear hK K
        try simp only [Act.put, List.getElem_toArray, List.getElem_cons_zero, List.getElem_cons_succ, List.setIfInBounds_toArray, List.set_cons_zero, List.set_cons_succ]
        refine wpAnyH_ready (rs := [4]) (by kernel_rfl) (by simp) ?_
        refine AllReadyH.cons rfl (fun K hK => ?_) AllReadyH.nil
        try simp only [List.getElem_toArray, List.getElem_cons_zero, List.getElem_cons_succ]
        go_simp
        refine hK.out _ _ ?_ (fun hHeld => ?_)
        · (try dsimp only); refine ⟨?_, ?_, ?_, ?_, ?_, ?_, ?_, ?_, ?_, ?_, ?_, ?_, ?_⟩ <;> first | assumption | (simp [go_sem]; done) | exact (World.cell?_alloc_lt _ _ ⟨_, _, _⟩ (by first | omega | (simp; omega) | simp)).trans (by assumption) | (simp [go_sem, ngx]; first | done | assumption)
        clear hK K
        try simp only [Act.put, List.getElem_toArray, List.getElem_cons_zero, List.getElem_cons_succ, List.setIfInBounds_toArray, List.set_cons_zero, List.set_cons_succ]
        refine wpAnyH_ready (rs := [7]) (by kernel_rfl) (by simp) ?_
        refine AllReadyH.cons rfl (fun K hK => ?_) AllReadyH.nil
        try simp only [List.getElem_toArray, List.getElem_cons_zero, List.getElem_cons_succ]
        rw [if_pos (by rfl)]
        refine wp_appendC (.tmp 45) (.tmp 47) (by rfl) B A cap cs.length (flatC cs) (by rfl) (show (((w1.alloc (.cells #[.int .u8 x.kd, .int .u8 x.op, .int .i64 x.oa, .int .i64 x.ob, .int .i64 x.fd, .int .i64 x.n, .int .u64 x.m, .int .u64 x.w, .int .i64 x.a, .int .i64 x.b, .int .i64 x.to, .string (bs gl), .int .i64 (i : Nat)] 74)).alloc (.cells #[.int .u8 x.kd, .int .u8 x.op, .int .i64 x.oa, .int .i64 x.ob, .int .i64 x.fd, .int .i64 x.n, .int .u64 x.m, .int .u64 x.w, .int .i64 x.a, .int .i64 x.b, .int .i64 x.to, .string (bs gl), .int .i64 (i : Nat)] 74)).drew).ownsRow B 74 13 (.slice A cs.length cap) cs.length (flatC cs) from owns_laterC HROW1.out (by repeat (first | exact Below.refl _ _ | assumption | (refine below_drewN ?_ _) | (refine Below.drew ?_) | (refine Below.alloc ?_ (by first | omega | (simp; omega) | simp) _) | (refine Below.setCell ?_ (by first | omega | (simp; omega) | simp) _) | (refine below_trans ?_ (by assumption) (by first | omega | (simp; omega) | simp))))) (some ⟨w1.heap.size + 1, 0, none⟩) 1 1 (cmc (x, gl, i)) (by rfl) rfl (fun _ => ⟨w1.heap.size + 1, 0, rfl, fun j u hj => fl_liesG (w1.alloc (.cells #[.int .u8 x.kd, .int .u8 x.op, .int .i64 x.oa, .int .i64 x.ob, .int .i64 x.fd, .int .i64 x.n, .int .u64 x.m, .int .u64 x.w, .int .i64 x.a, .int .i64 x.b, .int .i64 x.to, .string (bs gl), .int .i64 (i : Nat)] 74)) (w1.heap.size + 1) (by simp) (cmc (x, gl, i)) 74 j u hj⟩) (cmc_one _) (by omega) (by simp; omega) ?_
        intro A7 cap7 w7 hown7 hg7 hb_w7 hat7
        have HW7 := Lib.hid hown7
        have HG7 := Lib.hid hg7
        have HB7 := Lib.hid hb_w7
        have hs7 := hb_w7.size
        obtain ⟨g17, z17⟩ := read_mid HRD.out hgwB hb_w1 c1 HROW.out hg7
        have hx7 : ∀ o, w7.cell? ⟨w1.heap.size, o, none⟩ = (((w1.alloc (.cells #[.int .u8 x.kd, .int .u8 x.op, .int .i64 x.oa, .int .i64 x.ob, .int .i64 x.fd, .int .i64 x.n, .int .u64 x.m, .int .u64 x.w, .int .i64 x.a, .int .i64 x.b, .int .i64 x.to, .string (bs gl), .int .i64 (i : Nat)] 74)).alloc (.cells #[.int .u8 x.kd, .int .u8 x.op, .int .i64 x.oa, .int .i64 x.ob, .int .i64 x.fd, .int .i64 x.n, .int .u64 x.m, .int .u64 x.w, .int .i64 x.a, .int .i64 x.b, .int .i64 x.to, .string (bs gl), .int .i64 (i : Nat)] 74)).drew).cell? ⟨w1.heap.size, o, none⟩ := fun o => World.cell?_of_block (hg7.block w1.heap.size (by simp [go_sem]) hAb.out)
        have n70 : w7.cell? ⟨w1.heap.size, 0, none⟩ = some (.int .u8 x.kd) := (hx7 0).trans (by simp [go_sem])
        have n71 : w7.cell? ⟨w1.heap.size, 1, none⟩ = some (.int .u8 x.op) := (hx7 1).trans (by simp [go_sem])
        have n72 : w7.cell? ⟨w1.heap.size, 2, none⟩ = some (.int .i64 x.oa) := (hx7 2).trans (by simp [go_sem])
        have n73 : w7.cell? ⟨w1.heap.size, 3, none⟩ = some (.int .i64 x.ob) := (hx7 3).trans (by simp [go_sem])
        have n74 : w7.cell? ⟨w1.heap.size, 4, none⟩ = some (.int .i64 x.fd) := (hx7 4).trans (by simp [go_sem])
        have n75 : w7.cell? ⟨w1.heap.size, 5, none⟩ = some (.int .i64 x.n) := (hx7 5).trans (by simp [go_sem])
        have n76 : w7.cell? ⟨w1.heap.size, 6, none⟩ = some (.int .u64 x.m) := (hx7 6).trans (by simp [go_sem])
        have n77 : w7.cell? ⟨w1.heap.size, 7, none⟩ = some (.int .u64 x.w) := (hx7 7).trans (by simp [go_sem])
        have n78 : w7.cell? ⟨w1.heap.size, 8, none⟩ = some (.int .i64 x.a) := (hx7 8).trans (by simp [go_sem])
        have n79 : w7.cell? ⟨w1.heap.size, 9, none⟩ = some (.int .i64 x.b) := (hx7 9).trans (by simp [go_sem])
        have n710 : w7.cell? ⟨w1.heap.size, 10, none⟩ = some (.int .i64 x.to) := (hx7 10).trans (by simp [go_sem])
        have n711 : w7.cell? ⟨w1.heap.size, 11, none⟩ = some (.string (bs gl)) := (hx7 11).trans (by simp [go_sem])
        have n712 : w7.cell? ⟨w1.heap.size, 12, none⟩ = some (.int .i64 (i : Nat)) := (hx7 12).trans (by simp [go_sem])
        clear hown7 hg7 hb_w7 hat7 hx7
        refine hK.out _ _ ?_ (fun hHeld => ?_)
        · (try dsimp only); refine ⟨?_, ?_, ?_, ?_, ?_, ?_, ?_, ?_, ?_, ?_, ?_, ?_, ?_⟩ <;> first | assumption | (simp [go_sem]; done) | exact (World.cell?_alloc_lt _ _ ⟨_, _, _⟩ (by first | omega | (simp; omega) | simp)).trans (by assumption) | (simp [go_sem, ngx]; first | done | assumption)
        clear hK K
        try simp only [Act.put, List.getElem_toArray, List.getElem_cons_zero, List.getElem_cons_succ, List.setIfInBounds_toArray, List.set_cons_zero, List.set_cons_succ]
        refine wpAnyH_take (i := 8) (v := ?_) rfl (by kernel_rfl) (by kernel_rfl) (by kernel_rfl) (fun _ _ _ h => h) (Or.inl ⟨by rfl, ?_⟩) (by assumption) ?_
        rotate_left
        · (intro w hSw; (try dsimp only at hSw); go_simp; first | done | with_reducible rfl)
        try simp only [Act.put, List.getElem_toArray, List.getElem_cons_zero, List.getElem_cons_succ, List.setIfInBounds_toArray, List.set_cons_zero, List.set_cons_succ]
        refine wpAnyH_take (i := 9) (v := ?_) rfl (by kernel_rfl) (by kernel_rfl) (by kernel_rfl) (fun _ _ _ h => h) (Or.inl ⟨by rfl, ?_⟩) (by assumption) ?_
        rotate_left
        · (intro w hSw; (try dsimp only at hSw); go_simp; first | done | with_reducible rfl)
        try simp only [Act.put, List.getElem_toArray, List.getElem_cons_zero, List.getElem_cons_succ, List.setIfInBounds_toArray, List.set_cons_zero, List.set_cons_succ]
        refine wpAnyH_ready (rs := [10]) (by kernel_rfl) (by simp) ?_
        refine AllReadyH.cons rfl (fun K hK => ?_) AllReadyH.nil
        try simp only [List.getElem_toArray, List.getElem_cons_zero, List.getElem_cons_succ]
        go_simp
        refine hK.out _ _ ?_ (fun hHeld => ?_)
        · (try dsimp only); refine ⟨?_, ?_, ?_, ?_, ?_, ?_, ?_, ?_, ?_, ?_, ?_, ?_, ?_⟩ <;> first | assumption | (simp [go_sem]; done) | exact (World.cell?_alloc_lt _ _ ⟨_, _, _⟩ (by first | omega | (simp; omega) | simp)).trans (by assumption) | (simp [go_sem, ngx]; first | done | assumption)
        clear hK K
        try simp only [Act.put, List.getElem_toArray, List.getElem_cons_zero, List.getElem_cons_succ, List.setIfInBounds_toArray, List.set_cons_zero, List.set_cons_succ]
        refine wpAnyH_done (by kernel_rfl) ?_ _
        go_wp2
        go_ret
        rw [HS2.out]
        obtain ⟨q1, q2⟩ := read_done (x, gl, i) b hbg hbM HRD.out hb_w1 HROW.out HW7.out HG7.out HB7.out
        exact ⟨rfl, fun _ => q1, q2⟩
theorem trimS_len (s : List UInt8) : (Lib.trimSuffix s [58]).length ≤ s.length := by
  unfold Lib.trimSuffix
  split <;> simp
set_option maxRecDepth 100000 in
set_option maxHeartbeats 4000000 in
theorem aread_any (b B g M : Nat) (lb : Lbs) (cs : Cms) (h : RD w B g M lb cs) (hok : LbOk lb) (hl : lb.length ≤ 100000) (hc : cs.length ≤ 256) (hbg : b ≤ g) (hbM : b ≤ M) (s : ByteArray) (hs : s.size ≤ 65536) (i : Nat) (hL : Lw w) :
    Calls Tryz.prog 21 #[.pointer (some ⟨g, 0, none⟩), .string s, .int .i64 (i : Nat)] w fun e w' => e = .returned (.int .i64 (stepS s.data.toList i lb cs).1) ∧ ((stepS s.data.toList i lb cs).1 = 0 → RD w' B g M (stepS s.data.toList i lb cs).2.1 (stepS s.data.toList i lb cs).2.2) ∧ Kp b B g M w w' := by
  by_cases hne : s.data.toList = []
  · have hie : s.toList.isEmpty = true := by rw [ByteArray.toList_eq, hne]; rfl
    have HST : Hid (stepS s.data.toList i lb cs = (0, lb, cs)) := Lib.hid (by unfold stepS; rw [if_pos hne])
    have HRD := Lib.hid h
    clear h hne
    go_enter Tryz.func21, Tryz.ntmps21
    go_wp2
    go_ret
    rw [HST.out]
    exact ⟨rfl, fun _ => HRD.out, Below.refl _ _, fun _ _ _ _ => rfl⟩
  cases hsf : Lib.hasSuffix s.data.toList [58] with
  | false => exact aread_a b B g M lb cs h hok hl hc hbg hbM s hs i hL hne hsf
  | true =>
    cases hlb : isLab (Lib.trimSuffix s.data.toList [58]) with
    | false => exact aread_b b B g M lb cs h hok hl hc hbg hbM s hs i hL hne hsf hlb
    | true =>
      have hie : s.toList.isEmpty = false := by rw [ByteArray.toList_eq]; simpa using hne
      have hlen : s.data.toList.length = s.size := Array.length_toList
      have htl := trimS_len s.data.toList
      have HCU := Lib.hid fun (W : World) => cutS_any (w := W) s hs
      rw [hsf] at HCU
      have HIL := Lib.hid fun (W : World) => isLabel_any (w := W) (bs (Lib.trimSuffix s.data.toList [58]))
      rw [bs_data, hlb] at HIL
      have HPL := Lib.hid (aplace_any (w := w) b B g M lb cs h hok hl hc hbg hbM (bs (Lib.trimSuffix s.data.toList [58])) (by rw [bs_size]; omega))
      rw [bs_data] at HPL
      have hstep : stepS s.data.toList i lb cs = if (lb.lookup (Lib.trimSuffix s.data.toList [58])).isSome then (4, lb, cs) else (0, lb ++ [(Lib.trimSuffix s.data.toList [58], cs.length)], cs) := by
        unfold stepS isDef
        rw [if_neg hne, hsf, hlb]
        rfl
      have HST := Lib.hid hstep
      clear h hne hsf hlb hstep hlen htl
      go_enter Tryz.func21, Tryz.ntmps21
      go_wp2_with fail
      go_at_call 37
      refine (HCU.out _).mono ?_
      rintro e w0 ⟨rfl, rfl⟩
      go_wp2_with fail
      go_at_call 38
      refine (HIL.out _).mono ?_
      rintro e w0 ⟨rfl, rfl⟩
      go_wp2_with fail
      go_at_call 39
      refine HPL.out.mono ?_
      rintro e w2 ⟨hr, hk⟩
      have HK := Lib.hid hk
      cases hq : (lb.lookup (Lib.trimSuffix s.data.toList [58])).isSome with
      | true =>
        rw [hq, if_pos rfl] at hr
        obtain rfl := hr
        have HS2 : Hid (stepS s.data.toList i lb cs = (4, lb, cs)) := Lib.hid (by rw [HST.out, hq]; rfl)
        clear hk hq
        go_wp2
        go_ret
        rw [HS2.out]
        exact ⟨rfl, fun h => by simp at h, HK.out⟩
      | false =>
        rw [hq, if_neg (by simp)] at hr
        obtain ⟨rfl, hrd⟩ := hr
        have HR := Lib.hid hrd
        have HS2 : Hid (stepS s.data.toList i lb cs = (0, lb ++ [(Lib.trimSuffix s.data.toList [58], cs.length)], cs)) := Lib.hid (by rw [HST.out, hq]; rfl)
        clear hk hq hrd
        go_wp2
        go_ret
        rw [HS2.out]
        exact ⟨rfl, fun _ => HR.out, HK.out⟩
end
end Go.Proofs.YtggaijdbaplfiaaGreatDoor
