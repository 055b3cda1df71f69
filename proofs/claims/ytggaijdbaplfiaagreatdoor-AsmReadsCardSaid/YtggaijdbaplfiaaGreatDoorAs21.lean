/- Contracts of package asm: read. -/
import Derived.Test.YtggaijdbaplfiaaGreatDoorAs20
import Derived.Deep.RegionHeld3
namespace Go.Proofs.YtggaijdbaplfiaaGreatDoor
open Go.RowKit
set_option linter.unusedVariables false
set_option linter.unusedSimpArgs false
/-- a line more -/
def stepS (s : List UInt8) (i : Nat) (lb : Lbs) (cs : Cms) : Int × Lbs × Cms :=
  if s = [] then (0, lb, cs) else
  if isDef s then (if (lb.lookup (Lib.trimSuffix s [58])).isSome then (4, lb, cs) else (0, lb ++ [(Lib.trimSuffix s [58], cs.length)], cs)) else
  match parseS s with
  | none => (2, lb, cs)
  | some c => if 256 ≤ cs.length then (6, lb, cs) else (0, lb, cs ++ [(c.1, c.2, i)])
theorem cmc_one (c : In × List UInt8 × Nat) : ∀ u ∈ cmc c, u.oneCell' = true := by
  intro u hu
  simp only [cmc, List.mem_cons, List.not_mem_nil, or_false] at hu
  rcases hu with rfl | rfl | rfl | rfl | rfl | rfl | rfl | rfl | rfl | rfl | rfl | rfl | rfl <;> rfl
theorem LabM.grown {w w' : World} {M : Nat} {lb : Lbs} {r : Option Nat} (h : LabM w M lb) (hg : w.grownBy w' r) (hne : some M ≠ r) : LabM w' M lb := World.ownsMap.kept (row := r) h hg hne
theorem grown_set (w : World) (g j : Nat) (v : Value) : w.grownBy (w.setCell ⟨g, j, none⟩ v) (some g) := ⟨rfl, rfl, rfl, by simp [World.setCell], fun k _ hk => Go.Deep.blk_setCell_other w ⟨g, j, none⟩ v k (fun e => hk (by rw [e]))⟩
theorem row_block {w : World} {B n cap : Nat} {A : Option Addr} {xs : List Value} (h : w.ownsRow B 74 13 (.slice A n cap) n xs) (k : Nat) (hk : k < B) : some k ≠ A.map fun a => a.block := fun e => by
  cases A with
  | none => simp at e
  | some a =>
    simp only [Option.map_some, Option.some.injEq] at e
    have := (h.lt a.block rfl).1
    omega
theorem read_mid {w w1 w7 : World} {B g M n cap : Nat} {lb : Lbs} {cs : Cms} {A : Option Addr} {CX DX : Array Value} {xs : List Value} (h : RD w B g M lb cs) (hgB : g < B) (hb1 : Below w.heap.size w w1) (c1 : w.cell? ⟨g, 1, none⟩ = some (.slice A n cap)) (hr : w.ownsRow B 74 13 (.slice A n cap) n xs)
    (hg7 : ((w1.alloc (.cells CX 74)).alloc (.cells DX 74)).drew.grownBy w7 (A.map fun a => a.block)) : w7.cell? ⟨g, 1, none⟩ = some (.slice A n cap) ∧ w7.frozen? ⟨g, 1, none⟩ = false := by
  have hgw : g < w.heap.size := by have := h.Bw; omega
  have hA : Below w.heap.size w ((w1.alloc (.cells CX 74)).alloc (.cells DX 74)).drew := by have := hb1.size; exact (by repeat (first | exact Below.refl _ _ | assumption | (refine below_drewN ?_ _) | (refine Below.drew ?_) | (refine Below.alloc ?_ (by first | omega | (simp; omega) | simp) _) | (refine Below.setCell ?_ (by first | omega | (simp; omega) | simp) _) | (refine below_trans ?_ (by assumption) (by first | omega | (simp; omega) | simp))))
  have hbl := hg7.block g (by have := hb1.size; simp [go_sem]; omega) (row_block hr g hgB)
  exact ⟨(World.cell?_of_block hbl).trans (((bcell hA).1 g 1 hgw).trans c1), (World.frozen?_of_block hbl).trans ((hA.frozen (p := ⟨g, 1, none⟩) hgw).trans (h.fz 1))⟩
theorem read_done {w w1 w7 : World} {B g M cap cap7 : Nat} {lb : Lbs} {cs : Cms} {A A7 : Option Addr} {CX DX : Array Value} (c : In × List UInt8 × Nat) (b : Nat) (hbg : b ≤ g) (hbM : b ≤ M) (h : RD w B g M lb cs) (hb1 : Below w.heap.size w w1) (hr : w.ownsRow B 74 13 (.slice A cs.length cap) cs.length (flatC cs))
    (hown7 : w7.ownsRow B 74 13 (.slice A7 (cs.length + 1) cap7) (cs.length + 1) (flatC cs ++ cmc c))
    (hg7 : ((w1.alloc (.cells CX 74)).alloc (.cells DX 74)).drew.grownBy w7 (A.map fun a => a.block)) (hb7 : Below B ((w1.alloc (.cells CX 74)).alloc (.cells DX 74)).drew w7) :
    RD (w7.setCell ⟨g, 1, none⟩ (.slice A7 (cs.length + 1) cap7)) B g M lb (cs ++ [c]) ∧ Kp b B g M w (w7.setCell ⟨g, 1, none⟩ (.slice A7 (cs.length + 1) cap7)) := by
  obtain ⟨h1, h2, h3, h4, h5, h6, h7, _⟩ := h
  have hgw : g < w.heap.size := by omega
  have hMw : M < w.heap.size := by omega
  have hs1 := hb1.size
  have hA : Below w.heap.size w ((w1.alloc (.cells CX 74)).alloc (.cells DX 74)).drew := (by repeat (first | exact Below.refl _ _ | assumption | (refine below_drewN ?_ _) | (refine Below.drew ?_) | (refine Below.alloc ?_ (by first | omega | (simp; omega) | simp) _) | (refine Below.setCell ?_ (by first | omega | (simp; omega) | simp) _) | (refine below_trans ?_ (by assumption) (by first | omega | (simp; omega) | simp))))
  have hsA : w.heap.size ≤ ((w1.alloc (.cells CX 74)).alloc (.cells DX 74)).drew.heap.size := hA.size
  have hblg := hg7.block g (by omega) (row_block hr g h1)
  have hs7 := hb7.size
  have h70 : w7.cell? ⟨g, 0, none⟩ = some (.map (some M)) := (World.cell?_of_block hblg).trans (((bcell hA).1 g 0 hgw).trans h7)
  have h71 : (w7.cell? ⟨g, 1, none⟩).isSome = true := by
    obtain ⟨A', c', e1, _⟩ := (by assumption : ∃ A cap, w.cell? ⟨g, 1, none⟩ = some (.slice A cs.length cap) ∧ w.ownsRow B 74 13 (.slice A cs.length cap) cs.length (flatC cs))
    rw [(World.cell?_of_block hblg).trans (((bcell hA).1 g 1 hgw).trans e1)]
    rfl
  obtain ⟨v1, hv1⟩ := Option.isSome_iff_exists.1 h71
  have hm7 : LabM w7 M lb := (h5.later hA).grown hg7 (row_block hr M h2)
  refine ⟨⟨h1, h2, h3, ?_, hm7.grown (grown_set _ _ _ _) (fun e => h3 (by injection e with e; exact e.symm)), ?_, ?_, A7, cap7, ?_, ?_⟩, ?_, ?_⟩
  · simp only [World.size_setCell]; omega
  · exact fz_put (fun o => (World.frozen?_of_block hblg).trans ((hA.frozen (p := ⟨g, o, none⟩) hgw).trans (h6 o))) _ _
  · rw [← h70]; simp [go_sem]
  · rw [List.length_append, List.length_singleton]
    exact World.cell?_setCell_same _ _ _ hv1
  · rw [List.length_append, List.length_singleton, ← flatC_snoc]
    refine World.ownsRow.kept hown7 (grown_set _ _ _ _) ?_
    cases hv : (Value.slice A7 (cs.length + 1) cap7).ownBlock with
    | none => exact .inl rfl
    | some k9 =>
      right
      intro e9
      have := (hown7.lt k9 hv).1
      simp only [Option.some.injEq] at e9
      omega
  · exact Below.setCell (p := ⟨g, 1, none⟩) ((hA.mono (by omega)).trans (hb7.mono (by omega))) hbg _
  · intro k hk hkg hkM
    rw [Go.Deep.blk_setCell_other _ _ _ _ hkg, hb7.block k hk]
    exact hA.block k (by omega)
section
variable {w : World}
theorem cutS_any (s : ByteArray) (hs : s.size ≤ 65536) : Calls Tryz.prog 37 #[.string s, .string ⟨#[58]⟩] w fun e w' => e = .returned (.tuple #[.string (bs (Lib.trimSuffix s.data.toList [58])), .bool (Lib.hasSuffix s.data.toList [58])]) ∧ w' = w := L_strings_CutSuffix s ⟨#[58]⟩ w (by omega)
set_option maxRecDepth 100000 in
set_option maxHeartbeats 16000000 in
theorem aread_a (b B g M : Nat) (lb : Lbs) (cs : Cms) (h : RD w B g M lb cs) (hok : LbOk lb) (hl : lb.length ≤ 100000) (hc : cs.length ≤ 256) (hbg : b ≤ g) (hbM : b ≤ M) (s : ByteArray) (hs : s.size ≤ 65536) (i : Nat) (hL : Lw w) (hne : s.data.toList ≠ []) (hsf : Lib.hasSuffix s.data.toList [58] = false) :
    Calls Tryz.prog 21 #[.pointer (some ⟨g, 0, none⟩), .string s, .int .i64 (i : Nat)] w fun e w' => e = .returned (.int .i64 (stepS s.data.toList i lb cs).1) ∧ ((stepS s.data.toList i lb cs).1 = 0 → RD w' B g M (stepS s.data.toList i lb cs).2.1 (stepS s.data.toList i lb cs).2.2) ∧ Kp b B g M w w' := by
  have hgB := h.gB
  have hMB := h.MB
  have hgM := h.gM
  have hBw := h.Bw
  have hgw : g < w.heap.size := by omega
  have hbw : b ≤ w.heap.size := by omega
  obtain ⟨A, cap, c1, hrow⟩ := h.row
  have c0 := h.c0
  have OM := Lib.hid h.map
  have HRD := Lib.hid h
  have hgwB : g < B := h.gB
  have HROW := Lib.hid hrow
  have HPA := Lib.hid fun (W : World) hL => parse_any (w := W) s hs hL
  unfold ParsR at HPA
  have hie : s.toList.isEmpty = false := by rw [ByteArray.toList_eq]; simpa using hne
  have HCU := Lib.hid fun (W : World) => cutS_any (w := W) s hs
  rw [hsf] at HCU
  have hstep : stepS s.data.toList i lb cs = match parseS s.data.toList with
    | none => (2, lb, cs)
    | some c => if 256 ≤ cs.length then (6, lb, cs) else (0, lb, cs ++ [(c.1, c.2, i)]) := by
    unfold stepS isDef
    rw [if_neg hne, hsf]
    rfl
  have HST := Lib.hid hstep
  clear hrow h hstep hne hsf
  cases hps : parseS s.data.toList with
  | none =>
    have hst := HST.out
    rw [hps] at hst HPA
    have HS2 := Lib.hid hst
    have HP2 : Hid (∀ W, Lw W → Calls Tryz.prog 40 #[.string s] W fun e w' => e = .returned (.tuple #[.agg #[.int .u8 0, .int .u8 0, .int .i64 0, .int .i64 0, .int .i64 0, .int .i64 0, .int .u64 0, .int .u64 0, .int .i64 0, .int .i64 0, .int .i64 0, .string ⟨#[]⟩, .int .i64 0], .bool false]) ∧ Below W.heap.size W w') := Lib.hid fun W hL => HPA.out W hL
    clear hst HST HPA hps
    go_enter Tryz.func21, Tryz.ntmps21
    go_wp2_with fail
    go_at_call 37
    refine (HCU.out _).mono ?_
    rintro e w0 ⟨rfl, rfl⟩
    go_wp2_with fail
    go_at_call 40
    refine (HP2.out _ hL).mono ?_
    rintro e w1 ⟨rfl, hb_w1⟩
    obtain ⟨hc_w1, hf_w1⟩ := bcell hb_w1; have hs_w1 := hb_w1.size; (try simp only [World.size_alloc, World.size_setCell, World.size_drew, World.heap_drewN] at hs_w1)
    go_wp2
    go_ret
    rw [HS2.out]
    exact ⟨rfl, fun h => by simp at h, Kp.of (by repeat (first | exact Below.refl _ _ | assumption | (refine below_drewN ?_ _) | (refine Below.drew ?_) | (refine Below.alloc ?_ (by first | omega | (simp; omega) | simp) _) | (refine Below.setCell ?_ (by first | omega | (simp; omega) | simp) _) | (refine below_trans ?_ (by assumption) (by first | omega | (simp; omega) | simp)))) hbw hBw⟩
  | some c =>
    obtain ⟨x, gl⟩ := c
    have hst := HST.out
    rw [hps] at hst HPA
    have HP2 : Hid (∀ W, Lw W → Calls Tryz.prog 40 #[.string s] W fun e w' => e = .returned (.tuple #[.agg #[.int .u8 x.kd, .int .u8 x.op, .int .i64 x.oa, .int .i64 x.ob, .int .i64 x.fd, .int .i64 x.n, .int .u64 x.m, .int .u64 x.w, .int .i64 x.a, .int .i64 x.b, .int .i64 x.to, .string (bs gl), .int .i64 0], .bool true]) ∧ Below W.heap.size W w') := Lib.hid fun W hL => HPA.out W hL
    simp only at hst
    by_cases hfull : 256 ≤ cs.length
    · have d1 : decide (256 ≤ (cs.length : Int)) = true := decide_eq_true (by omega)
      rw [if_pos hfull] at hst
      have HS2 := Lib.hid hst
      clear hst HST HPA hps hfull
      go_enter Tryz.func21, Tryz.ntmps21
      go_wp2_with fail
      go_at_call 37
      refine (HCU.out _).mono ?_
      rintro e w0 ⟨rfl, rfl⟩
      go_wp2_with fail
      go_at_call 40
      refine (HP2.out _ hL).mono ?_
      rintro e w1 ⟨rfl, hb_w1⟩
      obtain ⟨hc_w1, hf_w1⟩ := bcell hb_w1; have hs_w1 := hb_w1.size; (try simp only [World.size_alloc, World.size_setCell, World.size_drew, World.heap_drewN] at hs_w1)
      have g11 : w1.cell? ⟨g, 1, none⟩ = some (.slice A cs.length cap) := ((bcell hb_w1).1 g 1 hgw).trans c1
      have hgw1 : g < w1.heap.size := by have := hb_w1.size; omega
      go_wp2
      go_ret
      rw [HS2.out]
      exact ⟨rfl, fun h => by simp at h, Kp.of (by repeat (first | exact Below.refl _ _ | assumption | (refine below_drewN ?_ _) | (refine Below.drew ?_) | (refine Below.alloc ?_ (by first | omega | (simp; omega) | simp) _) | (refine Below.setCell ?_ (by first | omega | (simp; omega) | simp) _) | (refine below_trans ?_ (by assumption) (by first | omega | (simp; omega) | simp)))) hbw hBw⟩
    · have d1 : decide (256 ≤ (cs.length : Int)) = false := decide_eq_false (by omega)
      rw [if_neg hfull] at hst
      have HS2 := Lib.hid hst
      clear hst HST HPA hps
      go_enter Tryz.func21, Tryz.ntmps21
      go_wp2_with fail
      go_at_call 37
      refine (HCU.out _).mono ?_
      rintro e w0 ⟨rfl, rfl⟩
      go_wp2_with fail
      go_at_call 40
      refine (HP2.out _ hL).mono ?_
      rintro e w1 ⟨rfl, hb_w1⟩
      obtain ⟨hc_w1, hf_w1⟩ := bcell hb_w1; have hs_w1 := hb_w1.size; (try simp only [World.size_alloc, World.size_setCell, World.size_drew, World.heap_drewN] at hs_w1)
      have g10 : w1.cell? ⟨g, 0, none⟩ = some (.map (some M)) := ((bcell hb_w1).1 g 0 hgw).trans c0
      have g11 : w1.cell? ⟨g, 1, none⟩ = some (.slice A cs.length cap) := ((bcell hb_w1).1 g 1 hgw).trans c1
      have hgw1 : g < w1.heap.size := by have := hb_w1.size; omega
      have ngx : ¬ g = w1.heap.size := by omega
      have HROW1 := Lib.hid (owns_laterC HROW.out hb_w1)
      have hAb : Hid (some w1.heap.size ≠ A.map fun a => a.block) := Lib.hid fun e => by
        cases A with
        | none => simp at e
        | some a =>
          simp only [Option.map_some, Option.some.injEq] at e
          have := HROW1.out.lt a.block rfl
          omega
      go_wp2_with fail
      refine wp_region_held_drew (S := (fun X : World => X.cell? ⟨w1.heap.size, 0, none⟩ = some (.int .u8 x.kd) ∧ X.cell? ⟨w1.heap.size, 1, none⟩ = some (.int .u8 x.op) ∧ X.cell? ⟨w1.heap.size, 2, none⟩ = some (.int .i64 x.oa) ∧ X.cell? ⟨w1.heap.size, 3, none⟩ = some (.int .i64 x.ob) ∧ X.cell? ⟨w1.heap.size, 4, none⟩ = some (.int .i64 x.fd) ∧ X.cell? ⟨w1.heap.size, 5, none⟩ = some (.int .i64 x.n) ∧ X.cell? ⟨w1.heap.size, 6, none⟩ = some (.int .u64 x.m) ∧ X.cell? ⟨w1.heap.size, 7, none⟩ = some (.int .u64 x.w) ∧ X.cell? ⟨w1.heap.size, 8, none⟩ = some (.int .i64 x.a) ∧ X.cell? ⟨w1.heap.size, 9, none⟩ = some (.int .i64 x.b) ∧ X.cell? ⟨w1.heap.size, 10, none⟩ = some (.int .i64 x.to) ∧ X.cell? ⟨w1.heap.size, 11, none⟩ = some (.string (bs gl)) ∧ X.cell? ⟨w1.heap.size, 12, none⟩ = some (.int .i64 (i : Nat)))) (by kernel_rfl) ?_ (fun hHeld => ?_)
      · (try dsimp only); refine ⟨?_, ?_, ?_, ?_, ?_, ?_, ?_, ?_, ?_, ?_, ?_, ?_, ?_⟩ <;> first | assumption | (simp [go_sem]; done) | exact (World.cell?_alloc_lt _ _ ⟨_, _, _⟩ (by first | omega | (simp; omega) | simp)).trans (by assumption) | (simp [go_sem, ngx]; first | done | assumption)
      refine wpAnyH_take (i := 0) (v := ?_) rfl (by kernel_rfl) (by kernel_rfl) (by kernel_rfl) (fun _ _ _ h => h) (Or.inl ⟨by rfl, ?_⟩) (by assumption) ?_
      rotate_left
      · (intro w hSw; (try dsimp only at hSw); go_simp; first | done | with_reducible rfl)
      try simp only [Act.put, List.getElem_toArray, List.getElem_cons_zero, List.getElem_cons_succ, List.setIfInBounds_toArray, List.set_cons_zero, List.set_cons_succ]
      refine wpAnyH_take (i := 1) (v := ?_) rfl (by kernel_rfl) (by kernel_rfl) (by kernel_rfl) (fun _ _ _ h => h) (Or.inl ⟨by rfl, ?_⟩) (by assumption) ?_
      rotate_left
      · (intro w hSw; (try dsimp only at hSw); go_simp; first | done | with_reducible rfl)
      try simp only [Act.put, List.getElem_toArray, List.getElem_cons_zero, List.getElem_cons_succ, List.setIfInBounds_toArray, List.set_cons_zero, List.set_cons_succ]
      refine wpAnyH_take (i := 2) (v := ?_) rfl (by kernel_rfl) (by kernel_rfl) (by kernel_rfl) (fun _ _ _ h => h) (Or.inl ⟨by rfl, ?_⟩) (by assumption) ?_
      rotate_left
      · (intro w hSw; (try dsimp only at hSw); go_simp; first | done | with_reducible rfl)
      try simp only [Act.put, List.getElem_toArray, List.getElem_cons_zero, List.getElem_cons_succ, List.setIfInBounds_toArray, List.set_cons_zero, List.set_cons_succ]
      refine wpAnyH_take (i := 3) (v := ?_) rfl (by kernel_rfl) (by kernel_rfl) (by kernel_rfl) (fun _ _ _ h => h) (Or.inl ⟨by rfl, ?_⟩) (by assumption) ?_
      rotate_left
      · (intro w hSw; (try dsimp only at hSw); go_simp; first | done | with_reducible rfl)
      try simp only [Act.put, List.getElem_toArray, List.getElem_cons_zero, List.getElem_cons_succ, List.setIfInBounds_toArray, List.set_cons_zero, List.set_cons_succ]
      refine wpAnyH_take (i := 5) (v := ?_) rfl (by kernel_rfl) (by kernel_rfl) (by kernel_rfl) (fun _ _ _ h => h) (Or.inl ⟨by rfl, ?_⟩) (by assumption) ?_
      rotate_left
      · (intro w hSw; (try dsimp only at hSw); go_simp; first | done | with_reducible rfl)
      try simp only [Act.put, List.getElem_toArray, List.getElem_cons_zero, List.getElem_cons_succ, List.setIfInBounds_toArray, List.set_cons_zero, List.set_cons_succ]
      refine wpAnyH_ready (rs := [4, 6]) (by kernel_rfl) (by simp) ?_
      refine AllReadyH.cons rfl (fun K hK => ?_) (AllReadyH.cons rfl (fun K hK => ?_) AllReadyH.nil)
      · try simp only [List.getElem_toArray, List.getElem_cons_zero, List.getElem_cons_succ]
        go_simp
        refine hK.out _ _ ?_ (fun hHeld => ?_)
        · (try dsimp only); refine ⟨?_, ?_, ?_, ?_, ?_, ?_, ?_, ?_, ?_, ?_, ?_, ?_, ?_⟩ <;> first | assumption | (simp [go_sem]; done) | exact (World.cell?_alloc_lt _ _ ⟨_, _, _⟩ (by first | omega | (simp; omega) | simp)).trans (by assumption) | (simp [go_sem, ngx]; first | done | assumption)
        clear hK K
        try simp only [Act.put, List.getElem_toArray, List.getElem_cons_zero, List.getElem_cons_succ, List.setIfInBounds_toArray, List.set_cons_zero, List.set_cons_succ]
        refine wpAnyH_ready (rs := [6]) (by kernel_rfl) (by simp) ?_
        refine AllReadyH.cons rfl (fun K hK => ?_) AllReadyH.nil
        try simp only [List.getElem_toArray, List.getElem_cons_zero, List.getElem_cons_succ]
        go_simp
        refine hK.out _ _ ?_ (fun hHeld => ?_)
        · (try dsimp only); refine ⟨?_, ?_, ?_, ?_, ?_, ?_, ?_, ?_, ?_, ?_, ?_, ?_, ?_⟩ <;> first | assumption | (simp [go_sem]; done) | exact (World.cell?_alloc_lt _ _ ⟨_, _, _⟩ (by first | omega | (simp; omega) | simp)).trans (by assumption) | (simp [go_sem, ngx]; first | done | assumption)
        clear hK K
        try simp only [Act.put, List.getElem_toArray, List.getElem_cons_zero, List.getElem_cons_succ, List.setIfInBounds_toArray, List.set_cons_zero, List.set_cons_succ]
        refine wpAnyH_ready (rs := [7]) (by kernel_rfl) (by simp) ?_
        refine AllReadyH.cons rfl (fun K hK => ?_) AllReadyH.nil
        try simp only [List.getElem_toArray, List.getElem_cons_zero, List.getElem_cons_succ]
        rw [if_pos (by rfl)]
        refine wp_appendC (.tmp 45) (.tmp 47) (by rfl) B A cap cs.length (flatC cs) (by rfl) (show (((w1.alloc (.cells #[.int .u8 x.kd, .int .u8 x.op, .int .i64 x.oa, .int .i64 x.ob, .int .i64 x.fd, .int .i64 x.n, .int .u64 x.m, .int .u64 x.w, .int .i64 x.a, .int .i64 x.b, .int .i64 x.to, .string (bs gl), .int .i64 (i : Nat)] 74)).alloc (.cells #[.int .u8 x.kd, .int .u8 x.op, .int .i64 x.oa, .int .i64 x.ob, .int .i64 x.fd, .int .i64 x.n, .int .u64 x.m, .int .u64 x.w, .int .i64 x.a, .int .i64 x.b, .int .i64 x.to, .string (bs gl), .int .i64 (i : Nat)] 74)).drew).ownsRow B 74 13 (.slice A cs.length cap) cs.length (flatC cs) from owns_laterC HROW1.out (by repeat (first | exact Below.refl _ _ | assumption | (refine below_drewN ?_ _) | (refine Below.drew ?_) | (refine Below.alloc ?_ (by first | omega | (simp; omega) | simp) _) | (refine Below.setCell ?_ (by first | omega | (simp; omega) | simp) _) | (refine below_trans ?_ (by assumption) (by first | omega | (simp; omega) | simp))))) (some ⟨w1.heap.size + 1, 0, none⟩) 1 1 (cmc (x, gl, i)) (by rfl) rfl (fun _ => ⟨w1.heap.size + 1, 0, rfl, fun j u hj => fl_liesG (w1.alloc (.cells #[.int .u8 x.kd, .int .u8 x.op, .int .i64 x.oa, .int .i64 x.ob, .int .i64 x.fd, .int .i64 x.n, .int .u64 x.m, .int .u64 x.w, .int .i64 x.a, .int .i64 x.b, .int .i64 x.to, .string (bs gl), .int .i64 (i : Nat)] 74)) (w1.heap.size + 1) (by simp) (cmc (x, gl, i)) 74 j u hj⟩) (cmc_one _) (by omega) (by simp; omega) ?_
        intro A7 cap7 w7 hown7 hg7 hb_w7 hat7
        have HW7 := Lib.hid hown7
        have HG7 := Lib.hid hg7
        have HB7 := Lib.hid hb_w7
        have hs7 := hb_w7.size
        obtain ⟨g17, z17⟩ := read_mid HRD.out hgwB hb_w1 c1 HROW.out hg7
        have hx7 : ∀ o, w7.cell? ⟨w1.heap.size, o, none⟩ = (((w1.alloc (.cells #[.int .u8 x.kd, .int .u8 x.op, .int .i64 x.oa, .int .i64 x.ob, .int .i64 x.fd, .int .i64 x.n, .int .u64 x.m, .int .u64 x.w, .int .i64 x.a, .int .i64 x.b, .int .i64 x.to, .string (bs gl), .int .i64 (i : Nat)] 74)).alloc (.cells #[.int .u8 x.kd, .int .u8 x.op, .int .i64 x.oa, .int .i64 x.ob, .int .i64 x.fd, .int .i64 x.n, .int .u64 x.m, .int .u64 x.w, .int .i64 x.a, .int .i64 x.b, .int .i64 x.to, .string (bs gl), .int .i64 (i : Nat)] 74)).drew).cell? ⟨w1.heap.size, o, none⟩ := fun o => World.cell?_of_block (hg7.block w1.heap.size (by simp [go_sem]) hAb.out)
        have n70 : w7.cell? ⟨w1.heap.size, 0, none⟩ = some (.int .u8 x.kd) := (hx7 0).trans (by simp [go_sem])
        have n71 : w7.cell? ⟨w1.heap.size, 1, none⟩ = some (.int .u8 x.op) := (hx7 1).trans (by simp [go_sem])
        have n72 : w7.cell? ⟨w1.heap.size, 2, none⟩ = some (.int .i64 x.oa) := (hx7 2).trans (by simp [go_sem])
        have n73 : w7.cell? ⟨w1.heap.size, 3, none⟩ = some (.int .i64 x.ob) := (hx7 3).trans (by simp [go_sem])
        have n74 : w7.cell? ⟨w1.heap.size, 4, none⟩ = some (.int .i64 x.fd) := (hx7 4).trans (by simp [go_sem])
        have n75 : w7.cell? ⟨w1.heap.size, 5, none⟩ = some (.int .i64 x.n) := (hx7 5).trans (by simp [go_sem])
        have n76 : w7.cell? ⟨w1.heap.size, 6, none⟩ = some (.int .u64 x.m) := (hx7 6).trans (by simp [go_sem])
        have n77 : w7.cell? ⟨w1.heap.size, 7, none⟩ = some (.int .u64 x.w) := (hx7 7).trans (by simp [go_sem])
        have n78 : w7.cell? ⟨w1.heap.size, 8, none⟩ = some (.int .i64 x.a) := (hx7 8).trans (by simp [go_sem])
        have n79 : w7.cell? ⟨w1.heap.size, 9, none⟩ = some (.int .i64 x.b) := (hx7 9).trans (by simp [go_sem])
        have n710 : w7.cell? ⟨w1.heap.size, 10, none⟩ = some (.int .i64 x.to) := (hx7 10).trans (by simp [go_sem])
        have n711 : w7.cell? ⟨w1.heap.size, 11, none⟩ = some (.string (bs gl)) := (hx7 11).trans (by simp [go_sem])
        have n712 : w7.cell? ⟨w1.heap.size, 12, none⟩ = some (.int .i64 (i : Nat)) := (hx7 12).trans (by simp [go_sem])
        clear hown7 hg7 hb_w7 hat7 hx7
        refine hK.out _ _ ?_ (fun hHeld => ?_)
        · (try dsimp only); refine ⟨?_, ?_, ?_, ?_, ?_, ?_, ?_, ?_, ?_, ?_, ?_, ?_, ?_⟩ <;> first | assumption | (simp [go_sem]; done) | exact (World.cell?_alloc_lt _ _ ⟨_, _, _⟩ (by first | omega | (simp; omega) | simp)).trans (by assumption) | (simp [go_sem, ngx]; first | done | assumption)
        clear hK K
        try simp only [Act.put, List.getElem_toArray, List.getElem_cons_zero, List.getElem_cons_succ, List.setIfInBounds_toArray, List.set_cons_zero, List.set_cons_succ]
        refine wpAnyH_take (i := 8) (v := ?_) rfl (by kernel_rfl) (by kernel_rfl) (by kernel_rfl) (fun _ _ _ h => h) (Or.inl ⟨by rfl, ?_⟩) (by assumption) ?_
        rotate_left
        · (intro w hSw; (try dsimp only at hSw); go_simp; first | done | with_reducible rfl)
        try simp only [Act.put, List.getElem_toArray, List.getElem_cons_zero, List.getElem_cons_succ, List.setIfInBounds_toArray, List.set_cons_zero, List.set_cons_succ]
        refine wpAnyH_take (i := 9) (v := ?_) rfl (by kernel_rfl) (by kernel_rfl) (by kernel_rfl) (fun _ _ _ h => h) (Or.inl ⟨by rfl, ?_⟩) (by assumption) ?_
        rotate_left
        · (intro w hSw; (try dsimp only at hSw); go_simp; first | done | with_reducible rfl)
        try simp only [Act.put, List.getElem_toArray, List.getElem_cons_zero, List.getElem_cons_succ, List.setIfInBounds_toArray, List.set_cons_zero, List.set_cons_succ]
        refine wpAnyH_ready (rs := [10]) (by kernel_rfl) (by simp) ?_
        refine AllReadyH.cons rfl (fun K hK => ?_) AllReadyH.nil
        try simp only [List.getElem_toArray, List.getElem_cons_zero, List.getElem_cons_succ]
        go_simp
        refine hK.out _ _ ?_ (fun hHeld => ?_)
        · (try dsimp only); refine ⟨?_, ?_, ?_, ?_, ?_, ?_, ?_, ?_, ?_, ?_, ?_, ?_, ?_⟩ <;> first | assumption | (simp [go_sem]; done) | exact (World.cell?_alloc_lt _ _ ⟨_, _, _⟩ (by first | omega | (simp; omega) | simp)).trans (by assumption) | (simp [go_sem, ngx]; first | done | assumption)
        clear hK K
        try simp only [Act.put, List.getElem_toArray, List.getElem_cons_zero, List.getElem_cons_succ, List.setIfInBounds_toArray, List.set_cons_zero, List.set_cons_succ]
        refine wpAnyH_done (by kernel_rfl) ?_ _
        go_wp2
        go_ret
        rw [HS2.out]
        obtain ⟨q1, q2⟩ := read_done (x, gl, i) b hbg hbM HRD.out hb_w1 HROW.out HW7.out HG7.out HB7.out
        exact ⟨rfl, fun _ => q1, q2⟩
      · try simp only [List.getElem_toArray, List.getElem_cons_zero, List.getElem_cons_succ]
        go_simp
        refine hK.out _ _ ?_ (fun hHeld => ?_)
        · (try dsimp only); refine ⟨?_, ?_, ?_, ?_, ?_, ?_, ?_, ?_, ?_, ?_, ?_, ?_, ?_⟩ <;> first | assumption | (simp [go_sem]; done) | exact (World.cell?_alloc_lt _ _ ⟨_, _, _⟩ (by first | omega | (simp; omega) | simp)).trans (by assumption) | (simp [go_sem, ngx]; first | done | assumption)
        clear hK K
        try simp only [Act.put, List.getElem_toArray, List.getElem_cons_zero, List.getElem_cons_succ, List.setIfInBounds_toArray, List.set_cons_zero, List.set_cons_succ]
        refine wpAnyH_ready (rs := [4]) (by kernel_rfl) (by simp) ?_
        refine AllReadyH.cons rfl (fun K hK => ?_) AllReadyH.nil
        try simp only [List.getElem_toArray, List.getElem_cons_zero, List.getElem_cons_succ]
        go_simp
        refine hK.out _ _ ?_ (fun hHeld => ?_)
        · (try dsimp only); refine ⟨?_, ?_, ?_, ?_, ?_, ?_, ?_, ?_, ?_, ?_, ?_, ?_, ?_⟩ <;> first | assumption | (simp [go_sem]; done) | exact (World.cell?_alloc_lt _ _ ⟨_, _, _⟩ (by first | omega | (simp; omega) | simp)).trans (by assumption) | (simp [go_sem, ngx]; first | done | assumption)
        clear hK K
        try simp only [Act.put, List.getElem_toArray, List.getElem_cons_zero, List.getElem_cons_succ, List.setIfInBounds_toArray, List.set_cons_zero, List.set_cons_succ]
        refine wpAnyH_ready (rs := [7]) (by kernel_rfl) (by simp) ?_
        refine AllReadyH.cons rfl (fun K hK => ?_) AllReadyH.nil
        try simp only [List.getElem_toArray, List.getElem_cons_zero, List.getElem_cons_succ]
        rw [if_pos (by rfl)]
        refine wp_appendC (.tmp 45) (.tmp 47) (by rfl) B A cap cs.length (flatC cs) (by rfl) (show (((w1.alloc (.cells #[.int .u8 x.kd, .int .u8 x.op, .int .i64 x.oa, .int .i64 x.ob, .int .i64 x.fd, .int .i64 x.n, .int .u64 x.m, .int .u64 x.w, .int .i64 x.a, .int .i64 x.b, .int .i64 x.to, .string (bs gl), .int .i64 (i : Nat)] 74)).alloc (.cells #[.int .u8 x.kd, .int .u8 x.op, .int .i64 x.oa, .int .i64 x.ob, .int .i64 x.fd, .int .i64 x.n, .int .u64 x.m, .int .u64 x.w, .int .i64 x.a, .int .i64 x.b, .int .i64 x.to, .string (bs gl), .int .i64 (i : Nat)] 74)).drew).ownsRow B 74 13 (.slice A cs.length cap) cs.length (flatC cs) from owns_laterC HROW1.out (by repeat (first | exact Below.refl _ _ | assumption | (refine below_drewN ?_ _) | (refine Below.drew ?_) | (refine Below.alloc ?_ (by first | omega | (simp; omega) | simp) _) | (refine Below.setCell ?_ (by first | omega | (simp; omega) | simp) _) | (refine below_trans ?_ (by assumption) (by first | omega | (simp; omega) | simp))))) (some ⟨w1.heap.size + 1, 0, none⟩) 1 1 (cmc (x, gl, i)) (by rfl) rfl (fun _ => ⟨w1.heap.size + 1, 0, rfl, fun j u hj => fl_liesG (w1.alloc (.cells #[.int .u8 x.kd, .int .u8 x.op, .int .i64 x.oa, .int .i64 x.ob, .int .i64 x.fd, .int .i64 x.n, .int .u64 x.m, .int .u64 x.w, .int .i64 x.a, .int .i64 x.b, .int .i64 x.to, .string (bs gl), .int .i64 (i : Nat)] 74)) (w1.heap.size + 1) (by simp) (cmc (x, gl, i)) 74 j u hj⟩) (cmc_one _) (by omega) (by simp; omega) ?_
        intro A7 cap7 w7 hown7 hg7 hb_w7 hat7
        have HW7 := Lib.hid hown7
        have HG7 := Lib.hid hg7
        have HB7 := Lib.hid hb_w7
        have hs7 := hb_w7.size
        obtain ⟨g17, z17⟩ := read_mid HRD.out hgwB hb_w1 c1 HROW.out hg7
        have hx7 : ∀ o, w7.cell? ⟨w1.heap.size, o, none⟩ = (((w1.alloc (.cells #[.int .u8 x.kd, .int .u8 x.op, .int .i64 x.oa, .int .i64 x.ob, .int .i64 x.fd, .int .i64 x.n, .int .u64 x.m, .int .u64 x.w, .int .i64 x.a, .int .i64 x.b, .int .i64 x.to, .string (bs gl), .int .i64 (i : Nat)] 74)).alloc (.cells #[.int .u8 x.kd, .int .u8 x.op, .int .i64 x.oa, .int .i64 x.ob, .int .i64 x.fd, .int .i64 x.n, .int .u64 x.m, .int .u64 x.w, .int .i64 x.a, .int .i64 x.b, .int .i64 x.to, .string (bs gl), .int .i64 (i : Nat)] 74)).drew).cell? ⟨w1.heap.size, o, none⟩ := fun o => World.cell?_of_block (hg7.block w1.heap.size (by simp [go_sem]) hAb.out)
        have n70 : w7.cell? ⟨w1.heap.size, 0, none⟩ = some (.int .u8 x.kd) := (hx7 0).trans (by simp [go_sem])
        have n71 : w7.cell? ⟨w1.heap.size, 1, none⟩ = some (.int .u8 x.op) := (hx7 1).trans (by simp [go_sem])
        have n72 : w7.cell? ⟨w1.heap.size, 2, none⟩ = some (.int .i64 x.oa) := (hx7 2).trans (by simp [go_sem])
        have n73 : w7.cell? ⟨w1.heap.size, 3, none⟩ = some (.int .i64 x.ob) := (hx7 3).trans (by simp [go_sem])
        have n74 : w7.cell? ⟨w1.heap.size, 4, none⟩ = some (.int .i64 x.fd) := (hx7 4).trans (by simp [go_sem])
        have n75 : w7.cell? ⟨w1.heap.size, 5, none⟩ = some (.int .i64 x.n) := (hx7 5).trans (by simp [go_sem])
        have n76 : w7.cell? ⟨w1.heap.size, 6, none⟩ = some (.int .u64 x.m) := (hx7 6).trans (by simp [go_sem])
        have n77 : w7.cell? ⟨w1.heap.size, 7, none⟩ = some (.int .u64 x.w) := (hx7 7).trans (by simp [go_sem])
        have n78 : w7.cell? ⟨w1.heap.size, 8, none⟩ = some (.int .i64 x.a) := (hx7 8).trans (by simp [go_sem])
        have n79 : w7.cell? ⟨w1.heap.size, 9, none⟩ = some (.int .i64 x.b) := (hx7 9).trans (by simp [go_sem])
        have n710 : w7.cell? ⟨w1.heap.size, 10, none⟩ = some (.int .i64 x.to) := (hx7 10).trans (by simp [go_sem])
        have n711 : w7.cell? ⟨w1.heap.size, 11, none⟩ = some (.string (bs gl)) := (hx7 11).trans (by simp [go_sem])
        have n712 : w7.cell? ⟨w1.heap.size, 12, none⟩ = some (.int .i64 (i : Nat)) := (hx7 12).trans (by simp [go_sem])
        clear hown7 hg7 hb_w7 hat7 hx7
        refine hK.out _ _ ?_ (fun hHeld => ?_)
        · (try dsimp only); refine ⟨?_, ?_, ?_, ?_, ?_, ?_, ?_, ?_, ?_, ?_, ?_, ?_, ?_⟩ <;> first | assumption | (simp [go_sem]; done) | exact (World.cell?_alloc_lt _ _ ⟨_, _, _⟩ (by first | omega | (simp; omega) | simp)).trans (by assumption) | (simp [go_sem, ngx]; first | done | assumption)
        clear hK K
        try simp only [Act.put, List.getElem_toArray, List.getElem_cons_zero, List.getElem_cons_succ, List.setIfInBounds_toArray, List.set_cons_zero, List.set_cons_succ]
        refine wpAnyH_take (i := 8) (v := ?_) rfl (by kernel_rfl) (by kernel_rfl) (by kernel_rfl) (fun _ _ _ h => h) (Or.inl ⟨by rfl, ?_⟩) (by assumption) ?_
        rotate_left
        · (intro w hSw; (try dsimp only at hSw); go_simp; first | done | with_reducible rfl)
        try simp only [Act.put, List.getElem_toArray, List.getElem_cons_zero, List.getElem_cons_succ, List.setIfInBounds_toArray, List.set_cons_zero, List.set_cons_succ]
        refine wpAnyH_take (i := 9) (v := ?_) rfl (by kernel_rfl) (by kernel_rfl) (by kernel_rfl) (fun _ _ _ h => h) (Or.inl ⟨by rfl, ?_⟩) (by assumption) ?_
        rotate_left
        · (intro w hSw; (try dsimp only at hSw); go_simp; first | done | with_reducible rfl)
        try simp only [Act.put, List.getElem_toArray, List.getElem_cons_zero, List.getElem_cons_succ, List.setIfInBounds_toArray, List.set_cons_zero, List.set_cons_succ]
        refine wpAnyH_ready (rs := [10]) (by kernel_rfl) (by simp) ?_
        refine AllReadyH.cons rfl (fun K hK => ?_) AllReadyH.nil
        try simp only [List.getElem_toArray, List.getElem_cons_zero, List.getElem_cons_succ]
        go_simp
        refine hK.out _ _ ?_ (fun hHeld => ?_)
        · (try dsimp only); refine ⟨?_, ?_, ?_, ?_, ?_, ?_, ?_, ?_, ?_, ?_, ?_, ?_, ?_⟩ <;> first | assumption | (simp [go_sem]; done) | exact (World.cell?_alloc_lt _ _ ⟨_, _, _⟩ (by first | omega | (simp; omega) | simp)).trans (by assumption) | (simp [go_sem, ngx]; first | done | assumption)
        clear hK K
        try simp only [Act.put, List.getElem_toArray, List.getElem_cons_zero, List.getElem_cons_succ, List.setIfInBounds_toArray, List.set_cons_zero, List.set_cons_succ]
        refine wpAnyH_done (by kernel_rfl) ?_ _
        go_wp2
        go_ret
        rw [HS2.out]
        obtain ⟨q1, q2⟩ := read_done (x, gl, i) b hbg hbM HRD.out hb_w1 HROW.out HW7.out HG7.out HB7.out
        exact ⟨rfl, fun _ => q1, q2⟩
end
end Go.Proofs.YtggaijdbaplfiaaGreatDoor
