/- parts Z5, Z6, ZR, Z7 -/
import Derived.Test.YtogfbdeplogcfaaGreatDoorMY9
import Derived.Deep.RegionHeld3
set_option linter.unusedVariables false
set_option linter.unusedSimpArgs false
namespace Go.Proofs.YtogfbdeplogcfaaGreatDoor
open Go.RowKit
set_option maxRecDepth 100000

theorem gotA_eq {ws : List Nat} (h : ws.length ≤ 16384) (i : Nat) : gotA ws i = ws.getD i 0 := by
  unfold gotA
  rw [if_pos h]
  split
  · rfl
  · rw [List.getD_eq_getElem?_getD, List.getElem?_eq_none (by omega)]; rfl
theorem blankB_iff {ws : List Nat} (h : ws.length ≤ 16384) {a c : Nat} : blankB ws a c = true ↔ ∀ q, q < c → ws.getD (a + q) 0 = 0 := by
  unfold blankB
  rw [List.all_eq_true]
  constructor
  · intro hh q hq
    have := hh q (by simpa using hq)
    rw [gotA_eq h] at this
    simpa using this
  · intro hh q hq
    rw [gotA_eq h]
    simpa using hh q (by simpa using hq)
theorem slot_rest {ws : List Nat} {d : Sd} {k : Nat} (h : ws.length ≤ 16384) {T : Nat} (hT : takN ws d k = T) :
    blankB ws (slA d k + T) (swd d - T) = true ↔ ∀ q, takN ws d k ≤ q → q < swd d → ws.getD (slA d k + q) 0 = 0 := by
  rw [blankB_iff h, hT]
  constructor
  · intro hh q h1 h2
    have := hh (q - T) (by omega)
    rwa [show slA d k + T + (q - T) = slA d k + q by omega] at this
  · intro hh q hq
    have := hh (T + q) (by omega) (by omega)
    rwa [← Nat.add_assoc] at this
def regOf (n : Nat) : Code → Option (Array Oper × Bool)
  | .region id ops d => if id = n then some (ops, d) else none
  | .seq a b => match regOf n a with
    | some r => some r
    | none => regOf n b
  | .cond _ a b => match regOf n a with
    | some r => some r
    | none => regOf n b
  | .block _ b => regOf n b
  | .loop b => regOf n b
  | .scope b => regOf n b
  | _ => none
def OnlyN (K : Act → World → Prop) : Exit → Act → World → Prop
  | .normal, a, w => K a w
  | _, _, _ => False
theorem OnlyN.ends {K : Act → World → Prop} {e : Exit} {a : Act} {w : World} (h : OnlyN K e a w) : e = .normal ∧ K a w := by
  cases e <;> first | exact ⟨rfl, h⟩ | exact h.elim
set_option maxRecDepth 100000 in
set_option maxHeartbeats 4000000 in
theorem soundR12 (wz : World) (g0 g1 a T SW : Nat) {n f p z mn : Int} {A U V Aa Am : Option Addr} {ws aw mw : List Nat} {s : Bool} (M ca nu cu nv cv caa cam : Nat) (bl : Bool) (x0 x1 x4 x5 x7 x9 x10 x11 x12 x13 x14 x15 x16 x17 x18 x19 x20 x21 x22 x23 x24 x25 x26 x27 x28 x29 x30 x31 x32 x33 x34 x35 x36 x37 x38 x39 x40 x41 x42 x43 x44 x45 x46 x47 x48 x49 x50 x51 x52 x53 x54 x55 x56 x57 x58 x59 x60 x61 x62 : Value) (ops : Array Oper) (dr : Bool) (hreg : (Tryz.f179.body.bind (regOf 12)) = some (ops, dr)) (HSW : ∀ (w : World), Calls Tryz.prog 161 #[.agg #[.int .i64 f, .int .i64 p, .int .i64 z, .int .i64 M, .slice Aa aw.length caa, .int .i64 mn, .slice Am mw.length cam, .bool s]] w fun e w' => e = .returned (.int .u64 (SW : Nat)) ∧ Below w.heap.size w w') (HH : Hb wz g0 A ws.length ca n U nu cu V nv cv) (S8 : Sp8 wz g1 0 ⟨f, p, z, M, aw, mn, mw, s⟩ Aa caa Am cam) (hr : Row wz wz.heap.size A ws) (ha : a ≤ 20000) (hT : T ≤ SW) (hS : SW ≤ 64) (hbl : blankB ws (a + T) (SW - T) = bl) :
    Code.wp Tryz.prog (Code.region 12 ops dr) (OnlyN fun a' w' => Below wz.heap.size wz w' ∧ ∃ (z52 z53 z54 z55 z56 z57 z58 z59 z60 : Value), a' = { tmps := #[x0, x1, .pointer (some ⟨g0, 0, none⟩), .pointer (some ⟨g1, 0, none⟩), x4, x5, .int .u64 (a : Nat), x7, .int .u64 (T : Nat), x9, x10, x11, x12, x13, x14, x15, x16, x17, x18, x19, x20, x21, x22, x23, x24, x25, x26, x27, x28, x29, x30, x31, x32, x33, x34, x35, x36, x37, x38, x39, x40, x41, x42, x43, x44, x45, x46, x47, x48, x49, x50, x51, z52, z53, z54, z55, z56, z57, z58, z59, z60, .bool (!bl), x62], defers := [] }) { tmps := #[x0, x1, .pointer (some ⟨g0, 0, none⟩), .pointer (some ⟨g1, 0, none⟩), x4, x5, .int .u64 (a : Nat), x7, .int .u64 (T : Nat), x9, x10, x11, x12, x13, x14, x15, x16, x17, x18, x19, x20, x21, x22, x23, x24, x25, x26, x27, x28, x29, x30, x31, x32, x33, x34, x35, x36, x37, x38, x39, x40, x41, x42, x43, x44, x45, x46, x47, x48, x49, x50, x51, x52, x53, x54, x55, x56, x57, x58, x59, x60, x61, x62], defers := [] } wz := by
  have hreg0 : (Tryz.f179.body.bind (regOf 12)) = some (_, _) := rfl
  rw [hreg0] at hreg
  injection hreg with hreg
  injection hreg with hreg1 hreg2
  subst hreg1 hreg2
  clear hreg0
  have e0 : IntKind.u64.wrap ((a : Int) + (T : Int)) = ((a + T : Nat) : Int) := by rw [IntKind.wrap_u64]; omega
  have e1 : IntKind.u64.wrap ((SW : Int) - (T : Int)) = ((SW - T : Nat) : Int) := by rw [IntKind.wrap_u64]; omega
  have HADD := Lib.hid e0
  have HSUB := Lib.hid e1
  clear e0 e1
  have g0l := HH.lt
  have g1l := S8.lt
  obtain ⟨m0, m1, m2, m3⟩ := HH
  obtain ⟨c0, c1, c2, c3, c4, c5, c6, c7⟩ := S8
  simp only [Nat.zero_add] at c0 c1 c2 c3 c4 c5 c6 c7
  have HBL := Lib.hid fun (w : World) hr => zblank_any (w := w) (n := n) (A := A) (U := U) (V := V) (ws := ws) ca cu cv nu nv (a + T) (SW - T) hr (by omega) (by omega) bl hbl
  unfold hpv at HBL
  have HSW := Lib.hid HSW
  clear hbl
  refine wp_region_held_drew (S := (fun X : World => X.cell? ⟨g0, 0, none⟩ = some (.slice A ws.length ca) ∧ X.cell? ⟨g0, 1, none⟩ = some (.int .i64 n) ∧ X.cell? ⟨g0, 2, none⟩ = some (.slice U nu cu) ∧ X.cell? ⟨g0, 3, none⟩ = some (.slice V nv cv) ∧ X.cell? ⟨g1, 0, none⟩ = some (.int .i64 f) ∧ X.cell? ⟨g1, 1, none⟩ = some (.int .i64 p) ∧ X.cell? ⟨g1, 2, none⟩ = some (.int .i64 z) ∧ X.cell? ⟨g1, 3, none⟩ = some (.int .i64 M) ∧ X.cell? ⟨g1, 4, none⟩ = some (.slice Aa aw.length caa) ∧ X.cell? ⟨g1, 5, none⟩ = some (.int .i64 mn) ∧ X.cell? ⟨g1, 6, none⟩ = some (.slice Am mw.length cam) ∧ X.cell? ⟨g1, 7, none⟩ = some (.bool s))) (by kernel_rfl) ?_ (fun hHeld => ?_)
  · (try dsimp only); refine ⟨?_, ?_, ?_, ?_, ?_, ?_, ?_, ?_, ?_, ?_, ?_, ?_⟩ <;> first | assumption | (simp [go_sem]; done) | exact (World.cell?_alloc_lt _ _ ⟨_, _, _⟩ (by first|omega|simp;omega|simp)).trans (by assumption)
  refine wpAnyH_take (i := 0) (v := ?_) rfl (by kernel_rfl) (by kernel_rfl) (by kernel_rfl) (fun _ _ _ h => h) (Or.inl ⟨by rfl, ?_⟩) (by assumption) ?_
  rotate_left
  · (intro w hSw; (try dsimp only at hSw); go_simp; first | done | with_reducible rfl)
  try simp only [Act.put, List.getElem_toArray, List.getElem_cons_zero, List.getElem_cons_succ, List.setIfInBounds_toArray, List.set_cons_zero, List.set_cons_succ]
  refine wpAnyH_take (i := 1) (v := ?_) rfl (by kernel_rfl) (by kernel_rfl) (by kernel_rfl) (fun _ _ _ h => h) (Or.inl ⟨by rfl, ?_⟩) (by assumption) ?_
  rotate_left
  · (intro w hSw; (try dsimp only at hSw); go_simp; first | done | with_reducible rfl)
  try simp only [Act.put, List.getElem_toArray, List.getElem_cons_zero, List.getElem_cons_succ, List.setIfInBounds_toArray, List.set_cons_zero, List.set_cons_succ]
  refine wpAnyH_take (i := 2) (v := ?_) rfl (by kernel_rfl) (by kernel_rfl) (by kernel_rfl) (fun _ _ _ h => h) (Or.inl ⟨by rfl, ?_⟩) (by assumption) ?_
  rotate_left
  · (intro w hSw; (try dsimp only at hSw); go_simp; first | done | with_reducible rfl)
  try simp only [Act.put, List.getElem_toArray, List.getElem_cons_zero, List.getElem_cons_succ, List.setIfInBounds_toArray, List.set_cons_zero, List.set_cons_succ]
  refine wpAnyH_take (i := 3) (v := ?_) rfl (by kernel_rfl) (by kernel_rfl) (by kernel_rfl) (fun _ _ _ h => h) (Or.inl ⟨by rfl, ?_⟩) (by assumption) ?_
  rotate_left
  · (intro w hSw; (try dsimp only at hSw); go_simp; first | done | with_reducible rfl)
  try simp only [Act.put, List.getElem_toArray, List.getElem_cons_zero, List.getElem_cons_succ, List.setIfInBounds_toArray, List.set_cons_zero, List.set_cons_succ]
  refine wpAnyH_take (i := 4) (v := ?_) rfl (by kernel_rfl) (by kernel_rfl) (by kernel_rfl) (fun _ _ _ h => h) (Or.inl ⟨by rfl, ?_⟩) (by assumption) ?_
  rotate_left
  · (intro w hSw; (try dsimp only at hSw); go_simp; first | done | with_reducible rfl)
  try simp only [Act.put, List.getElem_toArray, List.getElem_cons_zero, List.getElem_cons_succ, List.setIfInBounds_toArray, List.set_cons_zero, List.set_cons_succ]
  refine wpAnyH_take (i := 6) (v := ?_) rfl (by kernel_rfl) (by kernel_rfl) (by kernel_rfl) (fun _ _ _ h => h) (Or.inl ⟨by rfl, ?_⟩) (by assumption) ?_
  rotate_left
  · (intro w hSw; (try dsimp only at hSw); go_simp; first | done | with_reducible rfl)
  try simp only [Act.put, List.getElem_toArray, List.getElem_cons_zero, List.getElem_cons_succ, List.setIfInBounds_toArray, List.set_cons_zero, List.set_cons_succ]
  refine wpAnyH_ready (rs := [5]) (by kernel_rfl) (by simp) ?_
  refine AllReadyH.cons rfl (fun K hK => ?_) AllReadyH.nil
  try simp only [List.getElem_toArray, List.getElem_cons_zero, List.getElem_cons_succ]
  go_simp
  go_at_call 161
  refine (HSW.out _).mono ?_
  rintro e w8 ⟨rfl, hb_w8⟩
  have hs_w8 : wz.heap.size ≤ w8.heap.size := hb_w8.size
  have mw80 : w8.cell? ⟨g0, 0, none⟩ = some (.slice A ws.length ca) := (hb_w8.cell (p := ⟨g0, 0, none⟩) (by first|omega|simp;omega|simp)).trans (by first | assumption | (simp [go_sem]; done) | exact (World.cell?_alloc_lt _ _ ⟨_, _, _⟩ (by first|omega|simp;omega|simp)).trans (by assumption))
  have mw81 : w8.cell? ⟨g0, 1, none⟩ = some (.int .i64 n) := (hb_w8.cell (p := ⟨g0, 1, none⟩) (by first|omega|simp;omega|simp)).trans (by first | assumption | (simp [go_sem]; done) | exact (World.cell?_alloc_lt _ _ ⟨_, _, _⟩ (by first|omega|simp;omega|simp)).trans (by assumption))
  have mw82 : w8.cell? ⟨g0, 2, none⟩ = some (.slice U nu cu) := (hb_w8.cell (p := ⟨g0, 2, none⟩) (by first|omega|simp;omega|simp)).trans (by first | assumption | (simp [go_sem]; done) | exact (World.cell?_alloc_lt _ _ ⟨_, _, _⟩ (by first|omega|simp;omega|simp)).trans (by assumption))
  have mw83 : w8.cell? ⟨g0, 3, none⟩ = some (.slice V nv cv) := (hb_w8.cell (p := ⟨g0, 3, none⟩) (by first|omega|simp;omega|simp)).trans (by first | assumption | (simp [go_sem]; done) | exact (World.cell?_alloc_lt _ _ ⟨_, _, _⟩ (by first|omega|simp;omega|simp)).trans (by assumption))
  have mw84 : w8.cell? ⟨g1, 0, none⟩ = some (.int .i64 f) := (hb_w8.cell (p := ⟨g1, 0, none⟩) (by first|omega|simp;omega|simp)).trans (by first | assumption | (simp [go_sem]; done) | exact (World.cell?_alloc_lt _ _ ⟨_, _, _⟩ (by first|omega|simp;omega|simp)).trans (by assumption))
  have mw85 : w8.cell? ⟨g1, 1, none⟩ = some (.int .i64 p) := (hb_w8.cell (p := ⟨g1, 1, none⟩) (by first|omega|simp;omega|simp)).trans (by first | assumption | (simp [go_sem]; done) | exact (World.cell?_alloc_lt _ _ ⟨_, _, _⟩ (by first|omega|simp;omega|simp)).trans (by assumption))
  have mw86 : w8.cell? ⟨g1, 2, none⟩ = some (.int .i64 z) := (hb_w8.cell (p := ⟨g1, 2, none⟩) (by first|omega|simp;omega|simp)).trans (by first | assumption | (simp [go_sem]; done) | exact (World.cell?_alloc_lt _ _ ⟨_, _, _⟩ (by first|omega|simp;omega|simp)).trans (by assumption))
  have mw87 : w8.cell? ⟨g1, 3, none⟩ = some (.int .i64 M) := (hb_w8.cell (p := ⟨g1, 3, none⟩) (by first|omega|simp;omega|simp)).trans (by first | assumption | (simp [go_sem]; done) | exact (World.cell?_alloc_lt _ _ ⟨_, _, _⟩ (by first|omega|simp;omega|simp)).trans (by assumption))
  have mw88 : w8.cell? ⟨g1, 4, none⟩ = some (.slice Aa aw.length caa) := (hb_w8.cell (p := ⟨g1, 4, none⟩) (by first|omega|simp;omega|simp)).trans (by first | assumption | (simp [go_sem]; done) | exact (World.cell?_alloc_lt _ _ ⟨_, _, _⟩ (by first|omega|simp;omega|simp)).trans (by assumption))
  have mw89 : w8.cell? ⟨g1, 5, none⟩ = some (.int .i64 mn) := (hb_w8.cell (p := ⟨g1, 5, none⟩) (by first|omega|simp;omega|simp)).trans (by first | assumption | (simp [go_sem]; done) | exact (World.cell?_alloc_lt _ _ ⟨_, _, _⟩ (by first|omega|simp;omega|simp)).trans (by assumption))
  have mw810 : w8.cell? ⟨g1, 6, none⟩ = some (.slice Am mw.length cam) := (hb_w8.cell (p := ⟨g1, 6, none⟩) (by first|omega|simp;omega|simp)).trans (by first | assumption | (simp [go_sem]; done) | exact (World.cell?_alloc_lt _ _ ⟨_, _, _⟩ (by first|omega|simp;omega|simp)).trans (by assumption))
  have mw811 : w8.cell? ⟨g1, 7, none⟩ = some (.bool s) := (hb_w8.cell (p := ⟨g1, 7, none⟩) (by first|omega|simp;omega|simp)).trans (by first | assumption | (simp [go_sem]; done) | exact (World.cell?_alloc_lt _ _ ⟨_, _, _⟩ (by first|omega|simp;omega|simp)).trans (by assumption))
  try go_wp2_with fail
  refine hK.out _ _ ?_ (fun hHeld => ?_)
  · (try dsimp only); refine ⟨?_, ?_, ?_, ?_, ?_, ?_, ?_, ?_, ?_, ?_, ?_, ?_⟩ <;> first | assumption | (simp [go_sem]; done) | exact (World.cell?_alloc_lt _ _ ⟨_, _, _⟩ (by first|omega|simp;omega|simp)).trans (by assumption)
  clear hK K
  try simp only [Act.put, List.getElem_toArray, List.getElem_cons_zero, List.getElem_cons_succ, List.setIfInBounds_toArray, List.set_cons_zero, List.set_cons_succ]
  refine wpAnyH_take (i := 7) (v := ?_) rfl (by kernel_rfl) (by kernel_rfl) (by kernel_rfl) (fun _ _ _ h => h) (Or.inl ⟨by rfl, ?_⟩) (by assumption) ?_
  rotate_left
  · (intro w hSw; (try dsimp only at hSw); go_simp; first | done | with_reducible rfl)
  try simp only [Act.put, List.getElem_toArray, List.getElem_cons_zero, List.getElem_cons_succ, List.setIfInBounds_toArray, List.set_cons_zero, List.set_cons_succ]
  refine wpAnyH_ready (rs := [8]) (by kernel_rfl) (by simp) ?_
  refine AllReadyH.cons rfl (fun K hK => ?_) AllReadyH.nil
  try simp only [List.getElem_toArray, List.getElem_cons_zero, List.getElem_cons_succ]
  go_simp
  try simp only [HSUB.out, HADD.out]
  go_at_call 178
  refine (HBL.out _ (hr.later (by repeat (first|exact bR _ _|assumption|refine bN ?_ _|refine bD ?_|refine bA ?_ (by first|omega|simp;omega|simp) _|refine bS ?_ (by first|omega|simp;omega|simp) _|refine bT ?_ (by assumption) (by first|omega|simp;omega|simp))))).mono ?_
  rintro e w9 ⟨rfl, hb_w9⟩
  have hs_w9 : w8.heap.size ≤ w9.heap.size := hb_w9.size
  have mw90 : w9.cell? ⟨g0, 0, none⟩ = some (.slice A ws.length ca) := (hb_w9.cell (p := ⟨g0, 0, none⟩) (by first|omega|simp;omega|simp)).trans (by first | assumption | (simp [go_sem]; done) | exact (World.cell?_alloc_lt _ _ ⟨_, _, _⟩ (by first|omega|simp;omega|simp)).trans (by assumption))
  have mw91 : w9.cell? ⟨g0, 1, none⟩ = some (.int .i64 n) := (hb_w9.cell (p := ⟨g0, 1, none⟩) (by first|omega|simp;omega|simp)).trans (by first | assumption | (simp [go_sem]; done) | exact (World.cell?_alloc_lt _ _ ⟨_, _, _⟩ (by first|omega|simp;omega|simp)).trans (by assumption))
  have mw92 : w9.cell? ⟨g0, 2, none⟩ = some (.slice U nu cu) := (hb_w9.cell (p := ⟨g0, 2, none⟩) (by first|omega|simp;omega|simp)).trans (by first | assumption | (simp [go_sem]; done) | exact (World.cell?_alloc_lt _ _ ⟨_, _, _⟩ (by first|omega|simp;omega|simp)).trans (by assumption))
  have mw93 : w9.cell? ⟨g0, 3, none⟩ = some (.slice V nv cv) := (hb_w9.cell (p := ⟨g0, 3, none⟩) (by first|omega|simp;omega|simp)).trans (by first | assumption | (simp [go_sem]; done) | exact (World.cell?_alloc_lt _ _ ⟨_, _, _⟩ (by first|omega|simp;omega|simp)).trans (by assumption))
  have mw94 : w9.cell? ⟨g1, 0, none⟩ = some (.int .i64 f) := (hb_w9.cell (p := ⟨g1, 0, none⟩) (by first|omega|simp;omega|simp)).trans (by first | assumption | (simp [go_sem]; done) | exact (World.cell?_alloc_lt _ _ ⟨_, _, _⟩ (by first|omega|simp;omega|simp)).trans (by assumption))
  have mw95 : w9.cell? ⟨g1, 1, none⟩ = some (.int .i64 p) := (hb_w9.cell (p := ⟨g1, 1, none⟩) (by first|omega|simp;omega|simp)).trans (by first | assumption | (simp [go_sem]; done) | exact (World.cell?_alloc_lt _ _ ⟨_, _, _⟩ (by first|omega|simp;omega|simp)).trans (by assumption))
  have mw96 : w9.cell? ⟨g1, 2, none⟩ = some (.int .i64 z) := (hb_w9.cell (p := ⟨g1, 2, none⟩) (by first|omega|simp;omega|simp)).trans (by first | assumption | (simp [go_sem]; done) | exact (World.cell?_alloc_lt _ _ ⟨_, _, _⟩ (by first|omega|simp;omega|simp)).trans (by assumption))
  have mw97 : w9.cell? ⟨g1, 3, none⟩ = some (.int .i64 M) := (hb_w9.cell (p := ⟨g1, 3, none⟩) (by first|omega|simp;omega|simp)).trans (by first | assumption | (simp [go_sem]; done) | exact (World.cell?_alloc_lt _ _ ⟨_, _, _⟩ (by first|omega|simp;omega|simp)).trans (by assumption))
  have mw98 : w9.cell? ⟨g1, 4, none⟩ = some (.slice Aa aw.length caa) := (hb_w9.cell (p := ⟨g1, 4, none⟩) (by first|omega|simp;omega|simp)).trans (by first | assumption | (simp [go_sem]; done) | exact (World.cell?_alloc_lt _ _ ⟨_, _, _⟩ (by first|omega|simp;omega|simp)).trans (by assumption))
  have mw99 : w9.cell? ⟨g1, 5, none⟩ = some (.int .i64 mn) := (hb_w9.cell (p := ⟨g1, 5, none⟩) (by first|omega|simp;omega|simp)).trans (by first | assumption | (simp [go_sem]; done) | exact (World.cell?_alloc_lt _ _ ⟨_, _, _⟩ (by first|omega|simp;omega|simp)).trans (by assumption))
  have mw910 : w9.cell? ⟨g1, 6, none⟩ = some (.slice Am mw.length cam) := (hb_w9.cell (p := ⟨g1, 6, none⟩) (by first|omega|simp;omega|simp)).trans (by first | assumption | (simp [go_sem]; done) | exact (World.cell?_alloc_lt _ _ ⟨_, _, _⟩ (by first|omega|simp;omega|simp)).trans (by assumption))
  have mw911 : w9.cell? ⟨g1, 7, none⟩ = some (.bool s) := (hb_w9.cell (p := ⟨g1, 7, none⟩) (by first|omega|simp;omega|simp)).trans (by first | assumption | (simp [go_sem]; done) | exact (World.cell?_alloc_lt _ _ ⟨_, _, _⟩ (by first|omega|simp;omega|simp)).trans (by assumption))
  try go_wp2_with fail
  refine hK.out _ _ ?_ (fun hHeld => ?_)
  · (try dsimp only); refine ⟨?_, ?_, ?_, ?_, ?_, ?_, ?_, ?_, ?_, ?_, ?_, ?_⟩ <;> first | assumption | (simp [go_sem]; done) | exact (World.cell?_alloc_lt _ _ ⟨_, _, _⟩ (by first|omega|simp;omega|simp)).trans (by assumption)
  clear hK K
  try simp only [Act.put, List.getElem_toArray, List.getElem_cons_zero, List.getElem_cons_succ, List.setIfInBounds_toArray, List.set_cons_zero, List.set_cons_succ]
  refine wpAnyH_take (i := 9) (v := ?_) rfl (by kernel_rfl) (by kernel_rfl) (by kernel_rfl) (fun _ _ _ h => h) (Or.inl ⟨by rfl, ?_⟩) (by assumption) ?_
  rotate_left
  · (intro w hSw; (try dsimp only at hSw); go_simp; first | done | with_reducible rfl)
  try simp only [Act.put, List.getElem_toArray, List.getElem_cons_zero, List.getElem_cons_succ, List.setIfInBounds_toArray, List.set_cons_zero, List.set_cons_succ]
  refine wpAnyH_done (by kernel_rfl) ?_ _
  go_simp
  exact ⟨(by repeat (first|exact bR _ _|assumption|refine bN ?_ _|refine bD ?_|refine bA ?_ (by first|omega|simp;omega|simp) _|refine bS ?_ (by first|omega|simp;omega|simp) _|refine bT ?_ (by assumption) (by first|omega|simp;omega|simp))), _, _, _, _, _, _, _, _, _, rfl⟩
section
variable {w : World} {n : Int} {A U V Aa Am : Option Addr} {ws : List Nat} {d : Sd} (ca nu cu nv cv caa cam : Nat)
set_option maxHeartbeats 4000000 in
theorem zsound_any (hz : Sizes w) (hr : Row w w.heap.size A ws) (hAa : Row w w.heap.size Aa d.aw) (hAm : Row w w.heap.size Am d.mw) (hl : ws.length ≤ 16384) (ok : Ok1 d) (hin : ((d.f + d.p) * 16 : Int) ≤ ws.length) (b : Bool) (hb : b = true ↔ SoundS ws d) :
    Calls Tryz.prog 179 #[hpv A ws.length ca n U nu cu V nv cv, spv d Aa caa Am cam] w fun e w' => e = .returned (.bool b) ∧ Below w.heap.size w w' := by
  have HS := Lib.hid hb
  have HL := Lib.hid hl
  have hws := hr.words
  have HOK := Lib.hid ok
  have HA := Lib.hid ok.a
  obtain ⟨N1, N8, HN⟩ := ok.slK
  have hp := ok.sized.slots
  have hpl := ok.placed
  unfold Placed at hpl
  obtain ⟨pl0, pl1⟩ := hpl
  have han := ok.an
  obtain ⟨SW, hSW⟩ : ∃ SW, Hid (swd d = SW) := ⟨_, rfl⟩
  obtain ⟨_, sw0, sw1, _⟩ := ok.swd_eq
  rw [hSW.out] at sw0 sw1
  obtain ⟨M, hM⟩ : ∃ M, Hid (slN d = M) := ⟨_, rfl⟩
  rw [hM.out] at N1 N8 HN
  rw [← HN] at han
  clear hb ok HN
  have HSW0 := Lib.hid fun (w : World) => zslotw_any (w := w) d Aa caa Am cam (by omega) (by omega)
  rw [hSW.out] at HSW0
  have HFI0 := Lib.hid fun (w : World) hs n m h0 h1 b hb => zfits_any (w := w) hs n m h0 h1 d Aa caa Am cam b hb
  have HAD0 := Lib.hid fun (w : World) hA hM k r y hy => sAddr_any (w := w) (d := d) (A := Aa) (M := Am) caa cam hA hM k r y hy
  have HGE0 := Lib.hid fun (w : World) hA i h0 h1 => get_in (w := w) (n := d.an) (A := Aa) (ws := d.aw) caa i hA HA.out h0 h1
  have HWO0 := Lib.hid fun (w : World) hr i h1 => zword_any (w := w) (n := n) (A := A) (U := U) (V := V) (ws := ws) ca cu cv nu nv i hr h1
  have HBL := Lib.hid fun (w : World) hr a c ha hc b hb => zblank_any (w := w) (n := n) (A := A) (U := U) (V := V) (ws := ws) ca cu cv nu nv a c hr ha hc b hb
  have HRO := Lib.hid fun (k : Nat) (hk : k < M) => HOK.out.slA_in (k := k) (by rw [hM.out]; exact hk)
  have HEQ := Lib.hid fun (k : Nat) (hk : k < M) => (HOK.out.slA_eq (k := k) (by rw [hM.out]; exact hk)).1
  have HAE := Lib.hid fun (k : Nat) (hk : k < M) => (show AddrE d (k : Int) ((slA d k : Nat) : Int) 0 from .inl ⟨HOK.out, by omega, by have := HOK.out.slK.2.2; rw [hM.out] at this; omega, HEQ.out k hk, rfl⟩)
  have HST : Hid (∀ k, SlotOk ws d k → (∀ j, j < k → SlotOk ws d j) → ∀ j, j < k + 1 → SlotOk ws d j) := Lib.hid fun k h1 h2 j hj => by
    by_cases e : j = k
    · rw [e]; exact h1
    · exact h2 j (by omega)
  obtain ⟨f, p, z, an, aw, mn, mw, s⟩ := d
  simp only at *
  unfold spv at HSW0 HFI0 HAD0 ⊢
  simp only at HSW0 HFI0 HAD0 ⊢
  unfold hpv at HWO0 HBL ⊢
  obtain rfl : an = (M : Int) := han
  go_enter Tryz.func179, Tryz.ntmps179
  go_wp2_with fail
  go_loopw [16] (fun ii wr => ∃ k : Nat, ii = .int .i64 (k : Nat) ∧ k ≤ M ∧ Hid (∀ j, j < k → SlotOk ws ⟨f, p, z, M, aw, mn, mw, s⟩ j) ∧ Hid (Hb wr w.heap.size A ws.length ca n U nu cu V nv cv) ∧ Hid (Sp8 wr (w.heap.size + 1) 0 ⟨f, p, z, M, aw, mn, mw, s⟩ Aa caa Am cam) ∧ w.heap.size + 2 ≤ wr.heap.size ∧ Below w.heap.size w wr) (fun ii _ => M - (intOf ii).toNat)
  case atStart => exact ⟨0, rfl, Nat.zero_le _, Lib.hid (fun j hj => by omega), Lib.hid ⟨by simp [go_sem], by simp [go_sem], by simp [go_sem], by simp [go_sem]⟩, Lib.hid ⟨by simp [go_sem], by simp [go_sem], by simp [go_sem], by simp [go_sem], by simp [go_sem], by simp [go_sem], by simp [go_sem], by simp [go_sem]⟩, (by first|omega|simp;omega|simp), (by repeat (first|exact bR _ _|assumption|refine bN ?_ _|refine bD ?_|refine bA ?_ (by first|omega|simp;omega|simp) _|refine bS ?_ (by first|omega|simp;omega|simp) _|refine bT ?_ (by assumption) (by first|omega|simp;omega|simp)))⟩
  case round =>
    obtain ⟨k, rfl, hk, hT0, HH, S8, hsz, hb_wr⟩ := hrel
    have hsr := hb_wr.size
    by_cases hlt : k < M
    · obtain ⟨a0, a1⟩ := HRO.out k hlt
      have HAEk := Lib.hid (HAE.out k hlt)
      have HGE := Lib.hid fun (w : World) hA => HGE0.out w hA (k : Int) (by omega) (by omega)
      have hSTk := Lib.hid (HST.out k)
      have hrest := Lib.hid fun T hT => slot_rest (ws := ws) (d := ⟨f, p, z, M, aw, mn, mw, s⟩) (k := k) HL.out (T := T) hT
      obtain ⟨a, ha⟩ : ∃ a, Hid (slA ⟨f, p, z, M, aw, mn, mw, s⟩ k = a) := ⟨_, rfl⟩
      rw [ha.out] at hrest
      have hrest : Hid (∀ T, takN ws ⟨f, p, z, M, aw, mn, mw, s⟩ k = T → (blankB ws (a + T) (SW - T) = true ↔ ∀ q, takN ws ⟨f, p, z, M, aw, mn, mw, s⟩ k ≤ q → q < swd ⟨f, p, z, M, aw, mn, mw, s⟩ → ws.getD (a + q) 0 = 0)) := Lib.hid (fun T hT => by rw [← hSW.out]; exact hrest.out T hT)
      rw [ha.out] at a0 a1 HAEk
      rw [hSW.out] at a1
      have HAD := Lib.hid fun (w : World) hA hM => HAD0.out w hA hM (k : Int) (a : Nat) 0 HAEk.out
      have HWO := Lib.hid fun (w : World) hr => HWO0.out w hr a (by unfold W64; omega)
      have HSW := HSW0
      obtain ⟨x, hx⟩ : ∃ x, Hid (ws.getD a 0 = x) := ⟨_, rfl⟩
      have hxl : x < W64 := by rw [← hx.out]; exact hws.at_ _
      have hg := gotA_eq HL.out a
      rw [hx.out] at hg
      rw [hg] at HWO
      have HUN := Lib.hid fun (w : World) => hunpack_any (w := w) x hxl
      -- what the slot needs
      have HNO : Hid ((tb aw k = true ∧ ¬ Un x ∨ (tb aw k = true ∧ fitsB (unN x) ⟨f, p, z, M, aw, mn, mw, s⟩ = false ∨ ∃ T, takN ws ⟨f, p, z, M, aw, mn, mw, s⟩ k = T ∧ blankB ws (a + T) (SW - T) = false)) → b = false) := Lib.hid (by
        intro hor
        rcases b with _ | _
        · rfl
        · exfalso
          obtain ⟨h1, h2⟩ := HS.out.1 rfl k (by rw [hM.out]; exact hlt)
          rw [ha.out, hx.out] at h1
          rcases hor with ⟨e1, e2⟩ | ⟨e1, e2⟩ | ⟨T, e1, e2⟩
          · exact e2 (h1 e1).1
          · rw [(h1 e1).2] at e2; cases e2
          · have := (hrest.out T e1).2 (by intro q h3 h4; have := h2 q h3 h4; rwa [ha.out] at this)
            rw [this] at e2; cases e2)
      clear hg
      have HAw : Hid (∀ T, takN ws ⟨f, p, z, M, aw, mn, mw, s⟩ k = T ↔ (if tb aw k then (unN x).toNat + 1 else 0) = T) := Lib.hid (fun T => by unfold takN; simp only; rw [ha.out, hx.out])
      obtain ⟨m0, m1, m2, m3⟩ := id HH.out
      obtain ⟨c0, c1, c2, c3, c4, c5, c6, c7⟩ := id S8.out
      go_wp2_with fail
      go_at_call 126
      refine (HAD.out _ (hAa.later (by repeat (first|exact bR _ _|assumption|refine bN ?_ _|refine bD ?_|refine bA ?_ (by first|omega|simp;omega|simp) _|refine bS ?_ (by first|omega|simp;omega|simp) _|refine bT ?_ (by assumption) (by first|omega|simp;omega|simp)))) (hAm.later (by repeat (first|exact bR _ _|assumption|refine bN ?_ _|refine bD ?_|refine bA ?_ (by first|omega|simp;omega|simp) _|refine bS ?_ (by first|omega|simp;omega|simp) _|refine bT ?_ (by assumption) (by first|omega|simp;omega|simp))))).mono ?_
      rintro e w1 ⟨rfl, hb_w1⟩
      obtain ⟨hc_w1, hf_w1⟩ := bcell hb_w1; have hs_w1 := hb_w1.size; (try simp only [zA, zS, zD, zN] at hs_w1)
      clear hc_w1 hf_w1
      clear m0 m1 m2 m3 c0 c1 c2 c3 c4 c5 c6 c7
      have p0_w1 : w.heap.size < w1.heap.size := by omega
      have p1_w1 : w.heap.size + 1 < w1.heap.size := by omega
      have k_w1 : Below wr.heap.size wr w1 := (by repeat (first|exact bR _ _|assumption|refine bN ?_ _|refine bD ?_|refine bA ?_ (by first|omega|simp;omega|simp) _|refine bS ?_ (by first|omega|simp;omega|simp) _|refine bT ?_ (by assumption) (by first|omega|simp;omega|simp)))
      obtain ⟨m0, m1, m2, m3⟩ := id (HH.out.later k_w1)
      obtain ⟨c0, c1, c2, c3, c4, c5, c6, c7⟩ := id (S8.out.later k_w1)
      go_wp2_with fail
      go_at_call 201
      refine (HGE.out _ (hAa.later (by repeat (first|exact bR _ _|assumption|refine bN ?_ _|refine bD ?_|refine bA ?_ (by first|omega|simp;omega|simp) _|refine bS ?_ (by first|omega|simp;omega|simp) _|refine bT ?_ (by assumption) (by first|omega|simp;omega|simp))))).mono ?_
      rintro e w2 ⟨rfl, hb_w2⟩
      obtain ⟨hc_w2, hf_w2⟩ := bcell hb_w2; have hs_w2 := hb_w2.size; (try simp only [zA, zS, zD, zN] at hs_w2)
      clear hc_w2 hf_w2
      clear m0 m1 m2 m3 c0 c1 c2 c3 c4 c5 c6 c7
      have p0_w2 : w.heap.size < w2.heap.size := by omega
      have p1_w2 : w.heap.size + 1 < w2.heap.size := by omega
      have k_w2 : Below wr.heap.size wr w2 := (by repeat (first|exact bR _ _|assumption|refine bN ?_ _|refine bD ?_|refine bA ?_ (by first|omega|simp;omega|simp) _|refine bS ?_ (by first|omega|simp;omega|simp) _|refine bT ?_ (by assumption) (by first|omega|simp;omega|simp)))
      obtain ⟨m0, m1, m2, m3⟩ := id (HH.out.later k_w2)
      obtain ⟨c0, c1, c2, c3, c4, c5, c6, c7⟩ := id (S8.out.later k_w2)
      rcases hal : tb aw k with _ | _
      · have hT : takN ws ⟨f, p, z, M, aw, mn, mw, s⟩ k = 0 := (HAw.out 0).2 (by rw [hal]; rfl)
        have HYES : Hid (∀ T, takN ws ⟨f, p, z, M, aw, mn, mw, s⟩ k = T → blankB ws (a + T) (SW - T) = true → Hid (∀ j, j < k + 1 → SlotOk ws ⟨f, p, z, M, aw, mn, mw, s⟩ j)) := Lib.hid (fun T e1 e2 => Lib.hid (hSTk.out ⟨fun h => (by simp only at h; rw [hal] at h; cases h), fun q h3 h4 => (by rw [ha.out]; exact (hrest.out T e1).1 e2 q h3 h4)⟩ hT0.out))
        have h1 : tb aw ((k : Int)).toNat = false := by rw [Int.toNat_natCast]; exact hal
        clear hal HAw
        try simp only [h1]
        rcases hbl : blankB ws (a + 0) (SW - 0) with _ | _
        · obtain rfl : b = false := HNO.out (Or.inr (Or.inr ⟨0, hT, hbl⟩))
          have hbl2 := Lib.hid hbl
          clear hbl hT
          go_wp2_with fail
          refine wp_mono (soundR12 w2 w.heap.size (w.heap.size + 1) a 0 SW (n := n) (f := f) (p := p) (z := z) (mn := mn) (A := A) (U := U) (V := V) (Aa := Aa) (Am := Am) (ws := ws) (aw := aw) (mw := mw) (s := s) M ca nu cu nv cv caa cam false _ _ _ _ _ _ _ _ _ _ _ _ _ _ _ _ _ _ _ _ _ _ _ _ _ _ _ _ _ _ _ _ _ _ _ _ _ _ _ _ _ _ _ _ _ _ _ _ _ _ _ _ _ _ _ _ _ _ _ _ _ rfl (fun w => HSW.out w) ⟨m0, m1, m2, m3⟩ ⟨c0, c1, c2, c3, c4, c5, c6, c7⟩ (hr.later (by repeat (first|exact bR _ _|assumption|refine bN ?_ _|refine bD ?_|refine bA ?_ (by first|omega|simp;omega|simp) _|refine bS ?_ (by first|omega|simp;omega|simp) _|refine bT ?_ (by assumption) (by first|omega|simp;omega|simp)))) (by omega) (by omega) (by omega) hbl2.out) ?_
          intro e a' w9 hO
          obtain ⟨rfl, hb_w9, z0, z1, z2, z3, z4, z5, z6, z7, z8, rfl⟩ := hO.ends
          have hs_w9 := hb_w9.size
          go_wp2
          go_ret
          exact ⟨rfl, (by repeat (first|exact bR _ _|assumption|refine bN ?_ _|refine bD ?_|refine bA ?_ (by first|omega|simp;omega|simp) _|refine bS ?_ (by first|omega|simp;omega|simp) _|refine bT ?_ (by assumption) (by first|omega|simp;omega|simp)))⟩
        · have hS1 := HYES.out 0 hT hbl
          have hbl2 := Lib.hid hbl
          clear hbl hT
          go_wp2_with fail
          refine wp_mono (soundR12 w2 w.heap.size (w.heap.size + 1) a 0 SW (n := n) (f := f) (p := p) (z := z) (mn := mn) (A := A) (U := U) (V := V) (Aa := Aa) (Am := Am) (ws := ws) (aw := aw) (mw := mw) (s := s) M ca nu cu nv cv caa cam true _ _ _ _ _ _ _ _ _ _ _ _ _ _ _ _ _ _ _ _ _ _ _ _ _ _ _ _ _ _ _ _ _ _ _ _ _ _ _ _ _ _ _ _ _ _ _ _ _ _ _ _ _ _ _ _ _ _ _ _ _ rfl (fun w => HSW.out w) ⟨m0, m1, m2, m3⟩ ⟨c0, c1, c2, c3, c4, c5, c6, c7⟩ (hr.later (by repeat (first|exact bR _ _|assumption|refine bN ?_ _|refine bD ?_|refine bA ?_ (by first|omega|simp;omega|simp) _|refine bS ?_ (by first|omega|simp;omega|simp) _|refine bT ?_ (by assumption) (by first|omega|simp;omega|simp)))) (by omega) (by omega) (by omega) hbl2.out) ?_
          intro e a' w9 hO
          obtain ⟨rfl, hb_w9, z0, z1, z2, z3, z4, z5, z6, z7, z8, rfl⟩ := hO.ends
          have hs_w9 := hb_w9.size
          go_wp2
          have kE : Below wr.heap.size wr w9 := (by repeat (first|exact bR _ _|assumption|refine bN ?_ _|refine bD ?_|refine bA ?_ (by first|omega|simp;omega|simp) _|refine bS ?_ (by first|omega|simp;omega|simp) _|refine bT ?_ (by assumption) (by first|omega|simp;omega|simp)))
          go_roundw
          case rel => exact ⟨k + 1, by go_num, by omega, hS1, Lib.hid (HH.out.later kE), Lib.hid (S8.out.later kE), (by first|omega|simp;omega|simp), (by repeat (first|exact bR _ _|assumption|refine bN ?_ _|refine bD ?_|refine bA ?_ (by first|omega|simp;omega|simp) _|refine bS ?_ (by first|omega|simp;omega|simp) _|refine bT ?_ (by assumption) (by first|omega|simp;omega|simp)))⟩
          case measure => simp [intOf]; omega
      · have h1 : tb aw ((k : Int)).toNat = true := by rw [Int.toNat_natCast]; exact hal
        try simp only [h1]
        by_cases hun : Un x
        · have hY0 : unY x = 0 := by unfold unY; rw [if_pos hun]
          obtain ⟨n0, n48⟩ := unN_bounds x
          obtain ⟨T, hTx⟩ : ∃ T : Nat, unN x = (T : Int) := ⟨(unN x).toNat, by omega⟩
          have HFI := Lib.hid fun (w : World) hs b hb => HFI0.out w hs (T : Int) (unM x) (by omega) (by omega) b hb
          rw [hY0, hTx] at HUN
          rw [hTx] at n48 HNO HAw
          have hT : takN ws ⟨f, p, z, M, aw, mn, mw, s⟩ k = T + 1 := (HAw.out _).2 (by rw [hal]; simp)
          generalize unM x = mm at *
          have hroom := fun h => szn_room (n := (T : Int)) (d := ⟨f, p, z, M, aw, mn, mw, s⟩) (by omega) (by omega) h
          rw [hSW.out] at hroom
          have HYES0 : Hid (fitsB (T : Int) ⟨f, p, z, M, aw, mn, mw, s⟩ = true → ∀ T', takN ws ⟨f, p, z, M, aw, mn, mw, s⟩ k = T' → blankB ws (a + T') (SW - T') = true → Hid (∀ j, j < k + 1 → SlotOk ws ⟨f, p, z, M, aw, mn, mw, s⟩ j)) := Lib.hid (fun hf T' e1 e2 => Lib.hid (hSTk.out ⟨fun _ => (by rw [ha.out, hx.out, hTx]; exact ⟨hun, hf⟩), fun q h3 h4 => (by rw [ha.out]; exact (hrest.out T' e1).1 e2 q h3 h4)⟩ hT0.out))
          have HAL := Lib.hid hal
          clear hal HAw hTx hY0
          go_wp2_with fail
          go_at_call 81
          refine (HWO.out _ (hr.later (by repeat (first|exact bR _ _|assumption|refine bN ?_ _|refine bD ?_|refine bA ?_ (by first|omega|simp;omega|simp) _|refine bS ?_ (by first|omega|simp;omega|simp) _|refine bT ?_ (by assumption) (by first|omega|simp;omega|simp))))).mono ?_
          rintro e w3 ⟨rfl, hb_w3⟩
          obtain ⟨hc_w3, hf_w3⟩ := bcell hb_w3; have hs_w3 := hb_w3.size; (try simp only [zA, zS, zD, zN] at hs_w3)
          clear hc_w3 hf_w3
          clear m0 m1 m2 m3 c0 c1 c2 c3 c4 c5 c6 c7
          have p0_w3 : w.heap.size < w3.heap.size := by omega
          have p1_w3 : w.heap.size + 1 < w3.heap.size := by omega
          have k_w3 : Below wr.heap.size wr w3 := (by repeat (first|exact bR _ _|assumption|refine bN ?_ _|refine bD ?_|refine bA ?_ (by first|omega|simp;omega|simp) _|refine bS ?_ (by first|omega|simp;omega|simp) _|refine bT ?_ (by assumption) (by first|omega|simp;omega|simp)))
          obtain ⟨m0, m1, m2, m3⟩ := id (HH.out.later k_w3)
          obtain ⟨c0, c1, c2, c3, c4, c5, c6, c7⟩ := id (S8.out.later k_w3)
          go_wp2_with fail
          go_at_call 212
          refine (HUN.out _).mono ?_
          rintro e w4 ⟨rfl, hb_w4⟩
          obtain ⟨hc_w4, hf_w4⟩ := bcell hb_w4; have hs_w4 := hb_w4.size; (try simp only [zA, zS, zD, zN] at hs_w4)
          clear hc_w4 hf_w4
          clear m0 m1 m2 m3 c0 c1 c2 c3 c4 c5 c6 c7
          have p0_w4 : w.heap.size < w4.heap.size := by omega
          have p1_w4 : w.heap.size + 1 < w4.heap.size := by omega
          have k_w4 : Below wr.heap.size wr w4 := (by repeat (first|exact bR _ _|assumption|refine bN ?_ _|refine bD ?_|refine bA ?_ (by first|omega|simp;omega|simp) _|refine bS ?_ (by first|omega|simp;omega|simp) _|refine bT ?_ (by assumption) (by first|omega|simp;omega|simp)))
          obtain ⟨m0, m1, m2, m3⟩ := id (HH.out.later k_w4)
          obtain ⟨c0, c1, c2, c3, c4, c5, c6, c7⟩ := id (S8.out.later k_w4)
          rcases hfb : fitsB (T : Int) ⟨f, p, z, M, aw, mn, mw, s⟩ with _ | _
          · obtain rfl : b = false := HNO.out (Or.inr (Or.inl ⟨HAL.out, hfb⟩))
            have HFB := Lib.hid hfb
            clear hfb hroom hT
            go_wp2_with fail
            go_at_call 213
            refine (HFI.out _ (hz.later (by repeat (first|exact bR _ _|assumption|refine bN ?_ _|refine bD ?_|refine bA ?_ (by first|omega|simp;omega|simp) _|refine bS ?_ (by first|omega|simp;omega|simp) _|refine bT ?_ (by assumption) (by first|omega|simp;omega|simp)))) false HFB.out).mono ?_
            rintro e w5 ⟨rfl, hb_w5⟩
            obtain ⟨hc_w5, hf_w5⟩ := bcell hb_w5; have hs_w5 := hb_w5.size; (try simp only [zA, zS, zD, zN] at hs_w5)
            go_wp2
            go_ret
            exact ⟨rfl, (by repeat (first|exact bR _ _|assumption|refine bN ?_ _|refine bD ?_|refine bA ?_ (by first|omega|simp;omega|simp) _|refine bS ?_ (by first|omega|simp;omega|simp) _|refine bT ?_ (by assumption) (by first|omega|simp;omega|simp)))⟩
          · have hrm := hroom hfb
            rw [Int.toNat_natCast] at hrm
            have HYES := Lib.hid (HYES0.out hfb)
            have HFB := Lib.hid hfb
            clear hfb hroom HYES0
            have hw1 : IntKind.u64.wrap (T : Int) = (T : Int) := by rw [IntKind.wrap_u64]; omega
            have hw2 : IntKind.u64.wrap ((T : Int) + 1) = ((T + 1 : Nat) : Int) := by rw [IntKind.wrap_u64]; omega
            go_wp2_with fail
            go_at_call 213
            refine (HFI.out _ (hz.later (by repeat (first|exact bR _ _|assumption|refine bN ?_ _|refine bD ?_|refine bA ?_ (by first|omega|simp;omega|simp) _|refine bS ?_ (by first|omega|simp;omega|simp) _|refine bT ?_ (by assumption) (by first|omega|simp;omega|simp)))) true HFB.out).mono ?_
            rintro e w5 ⟨rfl, hb_w5⟩
            obtain ⟨hc_w5, hf_w5⟩ := bcell hb_w5; have hs_w5 := hb_w5.size; (try simp only [zA, zS, zD, zN] at hs_w5)
            have q0 : w5.cell? ⟨w4.heap.size, 0, none⟩ = some (.int .i64 (T : Nat)) := (hc_w5 _ _ (by first|omega|simp;omega|simp)).trans (by simp [go_sem])
            clear hc_w5 hf_w5
            clear m0 m1 m2 m3 c0 c1 c2 c3 c4 c5 c6 c7
            have p0_w5 : w.heap.size < w5.heap.size := by omega
            have p1_w5 : w.heap.size + 1 < w5.heap.size := by omega
            have k_w5 : Below wr.heap.size wr w5 := (by repeat (first|exact bR _ _|assumption|refine bN ?_ _|refine bD ?_|refine bA ?_ (by first|omega|simp;omega|simp) _|refine bS ?_ (by first|omega|simp;omega|simp) _|refine bT ?_ (by assumption) (by first|omega|simp;omega|simp)))
            obtain ⟨m0, m1, m2, m3⟩ := id (HH.out.later k_w5)
            obtain ⟨c0, c1, c2, c3, c4, c5, c6, c7⟩ := id (S8.out.later k_w5)
            rcases hbl : blankB ws (a + (T + 1)) (SW - (T + 1)) with _ | _
            · obtain rfl : b = false := HNO.out (Or.inr (Or.inr ⟨(T + 1), hT, hbl⟩))
              have hbl2 := Lib.hid hbl
              clear hbl hT
              go_wp2_with fail
              refine wp_mono (soundR12 w5 w.heap.size (w.heap.size + 1) a (T + 1) SW (n := n) (f := f) (p := p) (z := z) (mn := mn) (A := A) (U := U) (V := V) (Aa := Aa) (Am := Am) (ws := ws) (aw := aw) (mw := mw) (s := s) M ca nu cu nv cv caa cam false _ _ _ _ _ _ _ _ _ _ _ _ _ _ _ _ _ _ _ _ _ _ _ _ _ _ _ _ _ _ _ _ _ _ _ _ _ _ _ _ _ _ _ _ _ _ _ _ _ _ _ _ _ _ _ _ _ _ _ _ _ rfl (fun w => HSW.out w) ⟨m0, m1, m2, m3⟩ ⟨c0, c1, c2, c3, c4, c5, c6, c7⟩ (hr.later (by repeat (first|exact bR _ _|assumption|refine bN ?_ _|refine bD ?_|refine bA ?_ (by first|omega|simp;omega|simp) _|refine bS ?_ (by first|omega|simp;omega|simp) _|refine bT ?_ (by assumption) (by first|omega|simp;omega|simp)))) (by omega) (by omega) (by omega) hbl2.out) ?_
              intro e a' w9 hO
              obtain ⟨rfl, hb_w9, z0, z1, z2, z3, z4, z5, z6, z7, z8, rfl⟩ := hO.ends
              have hs_w9 := hb_w9.size
              go_wp2
              go_ret
              exact ⟨rfl, (by repeat (first|exact bR _ _|assumption|refine bN ?_ _|refine bD ?_|refine bA ?_ (by first|omega|simp;omega|simp) _|refine bS ?_ (by first|omega|simp;omega|simp) _|refine bT ?_ (by assumption) (by first|omega|simp;omega|simp)))⟩
            · have hS1 := HYES.out (T + 1) hT hbl
              have hbl2 := Lib.hid hbl
              clear hbl hT
              go_wp2_with fail
              refine wp_mono (soundR12 w5 w.heap.size (w.heap.size + 1) a (T + 1) SW (n := n) (f := f) (p := p) (z := z) (mn := mn) (A := A) (U := U) (V := V) (Aa := Aa) (Am := Am) (ws := ws) (aw := aw) (mw := mw) (s := s) M ca nu cu nv cv caa cam true _ _ _ _ _ _ _ _ _ _ _ _ _ _ _ _ _ _ _ _ _ _ _ _ _ _ _ _ _ _ _ _ _ _ _ _ _ _ _ _ _ _ _ _ _ _ _ _ _ _ _ _ _ _ _ _ _ _ _ _ _ rfl (fun w => HSW.out w) ⟨m0, m1, m2, m3⟩ ⟨c0, c1, c2, c3, c4, c5, c6, c7⟩ (hr.later (by repeat (first|exact bR _ _|assumption|refine bN ?_ _|refine bD ?_|refine bA ?_ (by first|omega|simp;omega|simp) _|refine bS ?_ (by first|omega|simp;omega|simp) _|refine bT ?_ (by assumption) (by first|omega|simp;omega|simp)))) (by omega) (by omega) (by omega) hbl2.out) ?_
              intro e a' w9 hO
              obtain ⟨rfl, hb_w9, z0, z1, z2, z3, z4, z5, z6, z7, z8, rfl⟩ := hO.ends
              have hs_w9 := hb_w9.size
              go_wp2
              have kE : Below wr.heap.size wr w9 := (by repeat (first|exact bR _ _|assumption|refine bN ?_ _|refine bD ?_|refine bA ?_ (by first|omega|simp;omega|simp) _|refine bS ?_ (by first|omega|simp;omega|simp) _|refine bT ?_ (by assumption) (by first|omega|simp;omega|simp)))
              go_roundw
              case rel => exact ⟨k + 1, by go_num, by omega, hS1, Lib.hid (HH.out.later kE), Lib.hid (S8.out.later kE), (by first|omega|simp;omega|simp), (by repeat (first|exact bR _ _|assumption|refine bN ?_ _|refine bD ?_|refine bA ?_ (by first|omega|simp;omega|simp) _|refine bS ?_ (by first|omega|simp;omega|simp) _|refine bT ?_ (by assumption) (by first|omega|simp;omega|simp)))⟩
              case measure => simp [intOf]; omega
        · obtain rfl : b = false := HNO.out (Or.inl ⟨hal, hun⟩)
          have hY0 : unY x = 2 := by unfold unY; rw [if_neg hun]
          have hN0 : unN x = 0 := by unfold unN; rw [if_neg hun]
          have hM0 : unM x = 0 := by unfold unM; rw [if_neg hun]
          rw [hY0, hN0, hM0] at HUN
          clear hal HAw hun hY0 hN0 hM0
          go_wp2_with fail
          go_at_call 81
          refine (HWO.out _ (hr.later (by repeat (first|exact bR _ _|assumption|refine bN ?_ _|refine bD ?_|refine bA ?_ (by first|omega|simp;omega|simp) _|refine bS ?_ (by first|omega|simp;omega|simp) _|refine bT ?_ (by assumption) (by first|omega|simp;omega|simp))))).mono ?_
          rintro e w3 ⟨rfl, hb_w3⟩
          obtain ⟨hc_w3, hf_w3⟩ := bcell hb_w3; have hs_w3 := hb_w3.size; (try simp only [zA, zS, zD, zN] at hs_w3)
          clear hc_w3 hf_w3
          clear m0 m1 m2 m3 c0 c1 c2 c3 c4 c5 c6 c7
          have p0_w3 : w.heap.size < w3.heap.size := by omega
          have p1_w3 : w.heap.size + 1 < w3.heap.size := by omega
          have k_w3 : Below wr.heap.size wr w3 := (by repeat (first|exact bR _ _|assumption|refine bN ?_ _|refine bD ?_|refine bA ?_ (by first|omega|simp;omega|simp) _|refine bS ?_ (by first|omega|simp;omega|simp) _|refine bT ?_ (by assumption) (by first|omega|simp;omega|simp)))
          obtain ⟨m0, m1, m2, m3⟩ := id (HH.out.later k_w3)
          obtain ⟨c0, c1, c2, c3, c4, c5, c6, c7⟩ := id (S8.out.later k_w3)
          go_wp2_with fail
          go_at_call 212
          refine (HUN.out _).mono ?_
          rintro e w4 ⟨rfl, hb_w4⟩
          obtain ⟨hc_w4, hf_w4⟩ := bcell hb_w4; have hs_w4 := hb_w4.size; (try simp only [zA, zS, zD, zN] at hs_w4)
          clear hc_w4 hf_w4
          clear m0 m1 m2 m3 c0 c1 c2 c3 c4 c5 c6 c7
          have p0_w4 : w.heap.size < w4.heap.size := by omega
          have p1_w4 : w.heap.size + 1 < w4.heap.size := by omega
          have k_w4 : Below wr.heap.size wr w4 := (by repeat (first|exact bR _ _|assumption|refine bN ?_ _|refine bD ?_|refine bA ?_ (by first|omega|simp;omega|simp) _|refine bS ?_ (by first|omega|simp;omega|simp) _|refine bT ?_ (by assumption) (by first|omega|simp;omega|simp)))
          obtain ⟨m0, m1, m2, m3⟩ := id (HH.out.later k_w4)
          obtain ⟨c0, c1, c2, c3, c4, c5, c6, c7⟩ := id (S8.out.later k_w4)
          go_wp2
          go_ret
          exact ⟨rfl, (by repeat (first|exact bR _ _|assumption|refine bN ?_ _|refine bD ?_|refine bA ?_ (by first|omega|simp;omega|simp) _|refine bS ?_ (by first|omega|simp;omega|simp) _|refine bT ?_ (by assumption) (by first|omega|simp;omega|simp)))⟩
    · obtain rfl : k = M := by omega
      obtain rfl : b = true := HS.out.2 (fun j hj => hT0.out j (by rw [hM.out] at hj; exact hj))
      obtain ⟨m0, m1, m2, m3⟩ := id HH.out
      obtain ⟨c0, c1, c2, c3, c4, c5, c6, c7⟩ := id S8.out
      go_wp2
      go_ret
      exact ⟨rfl, (by repeat (first|exact bR _ _|assumption|refine bN ?_ _|refine bD ?_|refine bA ?_ (by first|omega|simp;omega|simp) _|refine bS ?_ (by first|omega|simp;omega|simp) _|refine bT ?_ (by assumption) (by first|omega|simp;omega|simp)))⟩
end
end Go.Proofs.YtogfbdeplogcfaaGreatDoor
namespace Go.Proofs.YtogfbdeplogcfaaGreatDoor
open Go.RowKit
set_option maxRecDepth 100000

theorem usedB_one {us : List Nat} {n : Int} {k : Nat} (hk : (k : Int) < n) : usedB us n (k : Int) 1 = tb us k := by
  rw [Bool.eq_iff_iff, usedB_iff]
  constructor
  · intro h
    have := getB_iff.1 (h 0 (by omega))
    simpa using this.2.2
  · intro h j hj
    obtain rfl : j = 0 := by omega
    rw [getB_iff]
    exact ⟨by omega, by omega, by simpa using h⟩
def FreeAt (ws us : List Nat) (k : Nat) : Prop := (k = 0 ∨ tb us k = false) → ∀ q, q < 16 → ws.getD (k * 16 + q) 0 = 0
section
variable {w : World} {n : Int} {A U V : Option Addr} {ws us : List Nat} {l : List Sd} (ca cu cv : Nat)
set_option maxHeartbeats 2000000 in
theorem zfilled_any (hz : Sizes w) (hr : Row w w.heap.size A ws) (hu : Row w w.heap.size U us) (hv : SRow w w.heap.size V l) (hF : Framed ⟨ws, n, us, l⟩) (hO : Owned ⟨ws, n, us, l⟩) (b : Bool) (hb : b = true ↔ Filled ⟨ws, n, us, l⟩) :
    Calls Tryz.prog 118 #[hpv A ws.length ca n U us.length cu V l.length cv] w fun e w' => e = .returned (.bool b) ∧ Below w.heap.size w w' := by
  have HB := Lib.hid hb
  have HR := Lib.hid hF.pages
  have HF := Lib.hid hF
  have HL := Lib.hid hF.spans
  have HO := Lib.hid hO.in_
  have HW := Lib.hid hF.words
  have hlong := hF.long
  have hn := hF.some_
  have hn2 := hF.pages.2.1
  have hl256 := hF.spans.1
  simp only at hn hn2 hl256 hlong
  obtain ⟨N, rfl⟩ : ∃ N : Nat, n = (N : Int) := ⟨n.toNat, by omega⟩
  have HU := Lib.hid fun (w : World) hu f c f0 f1 c1 b hb => zused_any (w := w) (n := (N : Int)) (U := U) (us := us) (A := A) (V := V) (ca := ca) (cu := cu) (cv := cv) (na := ws.length) (nv := l.length) f c hu HR.out f0 f1 c1 b hb
  have HBL := Lib.hid fun (w : World) hr a c ha hc b hb => zblank_any (w := w) (n := (N : Int)) (A := A) (U := U) (V := V) (ws := ws) ca cu cv us.length l.length a c hr ha hc b hb
  have HSO := Lib.hid fun (w : World) hz hr Aa caa Am cam j (hj : j < l.length) hAa hAm b hb => zsound_any (w := w) (n := (N : Int)) (A := A) (U := U) (V := V) (Aa := Aa) (Am := Am) (ws := ws) (d := nth l j) ca us.length cu l.length cv caa cam hz hr hAa hAm HW.out (HL.out.at_ hj) (by have := HO.out j hj; simp only at this; omega) b hb
  clear hb hF hO hlong
  unfold hpv at HU HBL HSO ⊢
  go_enter Tryz.func118, Tryz.ntmps118
  go_wp2_with fail
  go_loopw [11] (fun ii wr => ∃ k : Nat, ii = .int .i64 (k : Nat) ∧ k ≤ N ∧ Hid (∀ j, j < k → FreeAt ws us j) ∧
    (wr.cell? ⟨w.heap.size, 0, none⟩ = some (.slice A ws.length ca) ∧ wr.cell? ⟨w.heap.size, 1, none⟩ = some (.int .i64 N) ∧ wr.cell? ⟨w.heap.size, 2, none⟩ = some (.slice U us.length cu) ∧ wr.cell? ⟨w.heap.size, 3, none⟩ = some (.slice V l.length cv)) ∧ w.heap.size + 1 ≤ wr.heap.size ∧ Below w.heap.size w wr) (fun ii _ => N - (intOf ii).toNat)
  case atStart => exact ⟨0, rfl, Nat.zero_le _, Lib.hid (fun j hj => by omega), ⟨by simp, by simp, by simp, by simp⟩, (by first|omega|simp;omega|simp), (by repeat (first|exact bR _ _|assumption|refine bN ?_ _|refine bD ?_|refine bA ?_ (by first|omega|simp;omega|simp) _|refine bS ?_ (by first|omega|simp;omega|simp) _|refine bT ?_ (by assumption) (by first|omega|simp;omega|simp)))⟩
  case round =>
    obtain ⟨k, rfl, hk, hT, ⟨m0, m1, m2, m3⟩, hsz, hb_wr⟩ := hrel
    have hsr := hb_wr.size
    have p0l : w.heap.size < wr.heap.size := by omega
    by_cases hlt : k < N
    · have HT1 : FreeAt ws us k → Hid (∀ j, j < k + 1 → FreeAt ws us j) := fun h => Lib.hid (fun j hj => by
        by_cases e : j = k
        · rw [e]; exact h
        · exact hT.out j (by omega))
      have HN : b = true → FreeAt ws us k := fun hb => (HB.out.1 hb).free k (by show (k : Int) < (N : Int); omega)
      have hbi := blankB_iff (ws := ws) HW.out (a := k * 16) (c := 16)
      have hu1 := usedB_one (us := us) (n := (N : Int)) (k := k) (by omega)
      have hw1 : IntKind.u64.wrap (k : Int) = (k : Int) := by rw [IntKind.wrap_u64]; omega
      obtain ⟨a, ha⟩ : ∃ a : Nat, Hid (k * 16 = a) := ⟨_, rfl⟩
      have hab : a ≤ 100000 := by rw [← ha.out]; omega
      have hw2 : IntKind.u64.wrap ((k : Int) * 16) = (a : Int) := by rw [IntKind.wrap_u64, ← ha.out]; omega
      rcases hbl : blankB ws (k * 16) 16 with _ | _
      · have HBK := Lib.hid fun (w : World) hr => HBL.out w hr a 16 (by omega) (by omega) false (by rw [← ha.out]; exact hbl)
        rcases hus : tb us k with _ | _
        · -- a free page with a word
          obtain rfl : b = false := by
            rcases b with _ | _
            · rfl
            · have := hbi.2 (HN rfl (.inr hus)); rw [hbl] at this; cases this
          have HUK := Lib.hid fun (w : World) hu => HU.out w hu (k : Int) 1 (by omega) (by omega) (by omega) false (by rw [hu1]; exact hus)
          clear HT1 HN hbi hu1 hbl hus
          by_cases hk0 : k = 0
          · have d1 : ((k : Int) == 0) = true := by simp [hk0]
            clear hk0
            go_wp2_with fail
            go_at_call 178
            refine (HBK.out _ ((hr.later hb_wr).later (by repeat (first|exact bR _ _|assumption|refine bN ?_ _|refine bD ?_|refine bA ?_ (by first|omega|simp;omega|simp) _|refine bS ?_ (by first|omega|simp;omega|simp) _|refine bT ?_ (by assumption) (by first|omega|simp;omega|simp))))).mono ?_
            rintro e w2 ⟨rfl, hb_w2⟩
            obtain ⟨hc_w2, hf_w2⟩ := bcell hb_w2; have hs_w2 := hb_w2.size; (try simp only [zA, zS, zD, zN] at hs_w2)
            clear hc_w2 hf_w2
            go_wp2
            go_ret
            exact ⟨rfl, (by repeat (first|exact bR _ _|assumption|refine bN ?_ _|refine bD ?_|refine bA ?_ (by first|omega|simp;omega|simp) _|refine bS ?_ (by first|omega|simp;omega|simp) _|refine bT ?_ (by assumption) (by first|omega|simp;omega|simp)))⟩
          · have d1 : ((k : Int) == 0) = false := by simp; omega
            clear hk0
            go_wp2_with fail
            go_at_call 177
            refine (HUK.out _ ((hu.later hb_wr).later (by repeat (first|exact bR _ _|assumption|refine bN ?_ _|refine bD ?_|refine bA ?_ (by first|omega|simp;omega|simp) _|refine bS ?_ (by first|omega|simp;omega|simp) _|refine bT ?_ (by assumption) (by first|omega|simp;omega|simp))))).mono ?_
            rintro e w1 ⟨rfl, hb_w1⟩
            obtain ⟨hc_w1, hf_w1⟩ := bcell hb_w1; have hs_w1 := hb_w1.size; (try simp only [zA, zS, zD, zN] at hs_w1)
            have n0 := (hc_w1 w.heap.size 0 (by first|omega|simp;omega|simp)).trans m0
            have n1 := (hc_w1 w.heap.size 1 (by first|omega|simp;omega|simp)).trans m1
            have n2 := (hc_w1 w.heap.size 2 (by first|omega|simp;omega|simp)).trans m2
            have n3 := (hc_w1 w.heap.size 3 (by first|omega|simp;omega|simp)).trans m3
            clear hc_w1 hf_w1
            go_wp2_with fail
            go_at_call 178
            refine (HBK.out _ ((hr.later hb_wr).later (by repeat (first|exact bR _ _|assumption|refine bN ?_ _|refine bD ?_|refine bA ?_ (by first|omega|simp;omega|simp) _|refine bS ?_ (by first|omega|simp;omega|simp) _|refine bT ?_ (by assumption) (by first|omega|simp;omega|simp))))).mono ?_
            rintro e w2 ⟨rfl, hb_w2⟩
            obtain ⟨hc_w2, hf_w2⟩ := bcell hb_w2; have hs_w2 := hb_w2.size; (try simp only [zA, zS, zD, zN] at hs_w2)
            clear hc_w2 hf_w2
            go_wp2
            go_ret
            exact ⟨rfl, (by repeat (first|exact bR _ _|assumption|refine bN ?_ _|refine bD ?_|refine bA ?_ (by first|omega|simp;omega|simp) _|refine bS ?_ (by first|omega|simp;omega|simp) _|refine bT ?_ (by assumption) (by first|omega|simp;omega|simp)))⟩
        · by_cases hk0 : k = 0
          · obtain rfl : b = false := by
              rcases b with _ | _
              · rfl
              · have := hbi.2 (HN rfl (.inl hk0)); rw [hbl] at this; cases this
            clear HT1 HN hbi hu1 hbl hus
            have d1 : ((k : Int) == 0) = true := by simp [hk0]
            clear hk0
            go_wp2_with fail
            go_at_call 178
            refine (HBK.out _ ((hr.later hb_wr).later (by repeat (first|exact bR _ _|assumption|refine bN ?_ _|refine bD ?_|refine bA ?_ (by first|omega|simp;omega|simp) _|refine bS ?_ (by first|omega|simp;omega|simp) _|refine bT ?_ (by assumption) (by first|omega|simp;omega|simp))))).mono ?_
            rintro e w2 ⟨rfl, hb_w2⟩
            obtain ⟨hc_w2, hf_w2⟩ := bcell hb_w2; have hs_w2 := hb_w2.size; (try simp only [zA, zS, zD, zN] at hs_w2)
            clear hc_w2 hf_w2
            go_wp2
            go_ret
            exact ⟨rfl, (by repeat (first|exact bR _ _|assumption|refine bN ?_ _|refine bD ?_|refine bA ?_ (by first|omega|simp;omega|simp) _|refine bS ?_ (by first|omega|simp;omega|simp) _|refine bT ?_ (by assumption) (by first|omega|simp;omega|simp)))⟩
          · have hT2 := HT1 (fun h => by rcases h with h | h; exact absurd h hk0; rw [hus] at h; cases h)
            have d1 : ((k : Int) == 0) = false := by simp; omega
            have HUK := Lib.hid fun (w : World) hu => HU.out w hu (k : Int) 1 (by omega) (by omega) (by omega) true (by rw [hu1]; exact hus)
            clear HT1 HN hbi hu1 hbl hus hk0
            go_wp2_with fail
            go_at_call 177
            refine (HUK.out _ ((hu.later hb_wr).later (by repeat (first|exact bR _ _|assumption|refine bN ?_ _|refine bD ?_|refine bA ?_ (by first|omega|simp;omega|simp) _|refine bS ?_ (by first|omega|simp;omega|simp) _|refine bT ?_ (by assumption) (by first|omega|simp;omega|simp))))).mono ?_
            rintro e w1 ⟨rfl, hb_w1⟩
            obtain ⟨hc_w1, hf_w1⟩ := bcell hb_w1; have hs_w1 := hb_w1.size; (try simp only [zA, zS, zD, zN] at hs_w1)
            have n0 := (hc_w1 w.heap.size 0 (by first|omega|simp;omega|simp)).trans m0
            have n1 := (hc_w1 w.heap.size 1 (by first|omega|simp;omega|simp)).trans m1
            have n2 := (hc_w1 w.heap.size 2 (by first|omega|simp;omega|simp)).trans m2
            have n3 := (hc_w1 w.heap.size 3 (by first|omega|simp;omega|simp)).trans m3
            clear hc_w1 hf_w1
            go_wp2
            go_roundw
            case rel => exact ⟨k + 1, by go_num, by omega, hT2, ⟨n0, n1, n2, n3⟩, (by first|omega|simp;omega|simp), (by repeat (first|exact bR _ _|assumption|refine bN ?_ _|refine bD ?_|refine bA ?_ (by first|omega|simp;omega|simp) _|refine bS ?_ (by first|omega|simp;omega|simp) _|refine bT ?_ (by assumption) (by first|omega|simp;omega|simp)))⟩
            case measure => simp [intOf]; omega
      · have hT2 := HT1 (fun _ => hbi.1 hbl)
        have HBK := Lib.hid fun (w : World) hr => HBL.out w hr a 16 (by omega) (by omega) true (by rw [← ha.out]; exact hbl)
        clear HT1 HN hbi hbl
        by_cases hk0 : k = 0
        · have d1 : ((k : Int) == 0) = true := by simp [hk0]
          clear hu1 hk0
          go_wp2_with fail
          go_at_call 178
          refine (HBK.out _ ((hr.later hb_wr).later (by repeat (first|exact bR _ _|assumption|refine bN ?_ _|refine bD ?_|refine bA ?_ (by first|omega|simp;omega|simp) _|refine bS ?_ (by first|omega|simp;omega|simp) _|refine bT ?_ (by assumption) (by first|omega|simp;omega|simp))))).mono ?_
          rintro e w2 ⟨rfl, hb_w2⟩
          obtain ⟨hc_w2, hf_w2⟩ := bcell hb_w2; have hs_w2 := hb_w2.size; (try simp only [zA, zS, zD, zN] at hs_w2)
          have n0 := (hc_w2 w.heap.size 0 (by first|omega|simp;omega|simp)).trans m0
          have n1 := (hc_w2 w.heap.size 1 (by first|omega|simp;omega|simp)).trans m1
          have n2 := (hc_w2 w.heap.size 2 (by first|omega|simp;omega|simp)).trans m2
          have n3 := (hc_w2 w.heap.size 3 (by first|omega|simp;omega|simp)).trans m3
          clear hc_w2 hf_w2
          go_wp2
          go_roundw
          case rel => exact ⟨k + 1, by go_num, by omega, hT2, ⟨n0, n1, n2, n3⟩, (by first|omega|simp;omega|simp), (by repeat (first|exact bR _ _|assumption|refine bN ?_ _|refine bD ?_|refine bA ?_ (by first|omega|simp;omega|simp) _|refine bS ?_ (by first|omega|simp;omega|simp) _|refine bT ?_ (by assumption) (by first|omega|simp;omega|simp)))⟩
          case measure => simp [intOf]; omega
        · have d1 : ((k : Int) == 0) = false := by simp; omega
          clear hk0
          rcases hus : tb us k with _ | _
          · have HUK := Lib.hid fun (w : World) hu => HU.out w hu (k : Int) 1 (by omega) (by omega) (by omega) false (by rw [hu1]; exact hus)
            clear hu1 hus
            go_wp2_with fail
            go_at_call 177
            refine (HUK.out _ ((hu.later hb_wr).later (by repeat (first|exact bR _ _|assumption|refine bN ?_ _|refine bD ?_|refine bA ?_ (by first|omega|simp;omega|simp) _|refine bS ?_ (by first|omega|simp;omega|simp) _|refine bT ?_ (by assumption) (by first|omega|simp;omega|simp))))).mono ?_
            rintro e w1 ⟨rfl, hb_w1⟩
            obtain ⟨hc_w1, hf_w1⟩ := bcell hb_w1; have hs_w1 := hb_w1.size; (try simp only [zA, zS, zD, zN] at hs_w1)
            have n0 := (hc_w1 w.heap.size 0 (by first|omega|simp;omega|simp)).trans m0
            have n1 := (hc_w1 w.heap.size 1 (by first|omega|simp;omega|simp)).trans m1
            have n2 := (hc_w1 w.heap.size 2 (by first|omega|simp;omega|simp)).trans m2
            have n3 := (hc_w1 w.heap.size 3 (by first|omega|simp;omega|simp)).trans m3
            clear hc_w1 hf_w1
            go_wp2_with fail
            go_at_call 178
            refine (HBK.out _ ((hr.later hb_wr).later (by repeat (first|exact bR _ _|assumption|refine bN ?_ _|refine bD ?_|refine bA ?_ (by first|omega|simp;omega|simp) _|refine bS ?_ (by first|omega|simp;omega|simp) _|refine bT ?_ (by assumption) (by first|omega|simp;omega|simp))))).mono ?_
            rintro e w2 ⟨rfl, hb_w2⟩
            obtain ⟨hc_w2, hf_w2⟩ := bcell hb_w2; have hs_w2 := hb_w2.size; (try simp only [zA, zS, zD, zN] at hs_w2)
            have o0 := (hc_w2 w.heap.size 0 (by first|omega|simp;omega|simp)).trans n0
            have o1 := (hc_w2 w.heap.size 1 (by first|omega|simp;omega|simp)).trans n1
            have o2 := (hc_w2 w.heap.size 2 (by first|omega|simp;omega|simp)).trans n2
            have o3 := (hc_w2 w.heap.size 3 (by first|omega|simp;omega|simp)).trans n3
            clear hc_w2 hf_w2
            go_wp2
            go_roundw
            case rel => exact ⟨k + 1, by go_num, by omega, hT2, ⟨o0, o1, o2, o3⟩, (by first|omega|simp;omega|simp), (by repeat (first|exact bR _ _|assumption|refine bN ?_ _|refine bD ?_|refine bA ?_ (by first|omega|simp;omega|simp) _|refine bS ?_ (by first|omega|simp;omega|simp) _|refine bT ?_ (by assumption) (by first|omega|simp;omega|simp)))⟩
            case measure => simp [intOf]; omega
          · have HUK := Lib.hid fun (w : World) hu => HU.out w hu (k : Int) 1 (by omega) (by omega) (by omega) true (by rw [hu1]; exact hus)
            clear hu1 hus
            go_wp2_with fail
            go_at_call 177
            refine (HUK.out _ ((hu.later hb_wr).later (by repeat (first|exact bR _ _|assumption|refine bN ?_ _|refine bD ?_|refine bA ?_ (by first|omega|simp;omega|simp) _|refine bS ?_ (by first|omega|simp;omega|simp) _|refine bT ?_ (by assumption) (by first|omega|simp;omega|simp))))).mono ?_
            rintro e w1 ⟨rfl, hb_w1⟩
            obtain ⟨hc_w1, hf_w1⟩ := bcell hb_w1; have hs_w1 := hb_w1.size; (try simp only [zA, zS, zD, zN] at hs_w1)
            have n0 := (hc_w1 w.heap.size 0 (by first|omega|simp;omega|simp)).trans m0
            have n1 := (hc_w1 w.heap.size 1 (by first|omega|simp;omega|simp)).trans m1
            have n2 := (hc_w1 w.heap.size 2 (by first|omega|simp;omega|simp)).trans m2
            have n3 := (hc_w1 w.heap.size 3 (by first|omega|simp;omega|simp)).trans m3
            clear hc_w1 hf_w1
            go_wp2
            go_roundw
            case rel => exact ⟨k + 1, by go_num, by omega, hT2, ⟨n0, n1, n2, n3⟩, (by first|omega|simp;omega|simp), (by repeat (first|exact bR _ _|assumption|refine bN ?_ _|refine bD ?_|refine bA ?_ (by first|omega|simp;omega|simp) _|refine bS ?_ (by first|omega|simp;omega|simp) _|refine bT ?_ (by assumption) (by first|omega|simp;omega|simp)))⟩
            case measure => simp [intOf]; omega
    · obtain rfl : k = N := by omega
      have HT := hT
      clear hT hlt hk
      generalize wr = wA at *
      go_wp2_with fail
      go_loopw [35] (fun ii wr => ∃ j : Nat, ii = .int .i64 (j : Nat) ∧ j ≤ l.length ∧ Hid (∀ i, i < j → SoundS ws (nth l i)) ∧
        (wr.cell? ⟨w.heap.size, 0, none⟩ = some (.slice A ws.length ca) ∧ wr.cell? ⟨w.heap.size, 1, none⟩ = some (.int .i64 k) ∧ wr.cell? ⟨w.heap.size, 2, none⟩ = some (.slice U us.length cu) ∧ wr.cell? ⟨w.heap.size, 3, none⟩ = some (.slice V l.length cv)) ∧ w.heap.size + 1 ≤ wr.heap.size ∧ Below w.heap.size w wr) (fun ii _ => l.length - (intOf ii).toNat)
      case atStart => exact ⟨0, rfl, Nat.zero_le _, Lib.hid (fun j hj => by omega), ⟨m0, m1, m2, m3⟩, hsz, hb_wr⟩
      case round =>
        clear m0 m1 m2 m3 hsz hb_wr hsr p0l
        obtain ⟨j, rfl, hj, hS, ⟨m0, m1, m2, m3⟩, hsz, hb_wr⟩ := hrel
        have hsr := hb_wr.size
        have p0l : w.heap.size < wr.heap.size := by omega
        by_cases hlt : j < l.length
        · obtain ⟨bb, off, rfl, hbb, hc⟩ := (hv.later hb_wr).at_ (by omega)
          obtain ⟨Aa, caa, Am, cam, c8, ra, rm⟩ := hc j hlt
          have HS1 : SoundS ws (nth l j) → Hid (∀ i, i < j + 1 → SoundS ws (nth l i)) := fun h => Lib.hid (fun i hi => by
            by_cases e : i = j
            · rw [e]; exact h
            · exact hS.out i (by omega))
          have HN : b = true → SoundS ws (nth l j) := fun hb => (HB.out.1 hb).sound j hlt
          obtain ⟨b', hb'⟩ : ∃ b' : Bool, b' = true ↔ SoundS ws (nth l j) := by
            by_cases h : SoundS ws (nth l j)
            · exact ⟨true, fun _ => h, fun _ => rfl⟩
            · exact ⟨false, fun h' => (by cases h'), fun h' => absurd h' h⟩
          have HSj := Lib.hid fun (w : World) hz hr hAa hAm => HSO.out w hz hr Aa caa Am cam j hlt hAa hAm b' hb'
          obtain ⟨d, hd⟩ : ∃ d, Hid (nth l j = d) := ⟨_, rfl⟩
          rw [hd.out] at c8 ra rm HS1 HN hb' HSj
          obtain ⟨c0, c1, c2, c3, c4, c5, c6, c7⟩ := id c8
          clear hc
          rcases b' with _ | _
          · obtain rfl : b = false := by
              rcases b with _ | _
              · rfl
              · exact absurd (hb'.2 (HN rfl)) (by simp)
            clear HS1 HN hb'
            obtain ⟨f, p, z, an, aw, mn, mw, s⟩ := d
            unfold spv at HSj
            simp only at *
            go_wp2_with (go_at_call 179; refine (HSj.out _ ((hz.later hb_wr).later (by repeat (first|exact bR _ _|assumption|refine bN ?_ _|refine bD ?_|refine bA ?_ (by first|omega|simp;omega|simp) _|refine bS ?_ (by first|omega|simp;omega|simp) _|refine bT ?_ (by assumption) (by first|omega|simp;omega|simp)))) ((hr.later hb_wr).later (by repeat (first|exact bR _ _|assumption|refine bN ?_ _|refine bD ?_|refine bA ?_ (by first|omega|simp;omega|simp) _|refine bS ?_ (by first|omega|simp;omega|simp) _|refine bT ?_ (by assumption) (by first|omega|simp;omega|simp)))) (ra.later (by repeat (first|exact bR _ _|assumption|refine bN ?_ _|refine bD ?_|refine bA ?_ (by first|omega|simp;omega|simp) _|refine bS ?_ (by first|omega|simp;omega|simp) _|refine bT ?_ (by assumption) (by first|omega|simp;omega|simp)))) (rm.later (by repeat (first|exact bR _ _|assumption|refine bN ?_ _|refine bD ?_|refine bA ?_ (by first|omega|simp;omega|simp) _|refine bS ?_ (by first|omega|simp;omega|simp) _|refine bT ?_ (by assumption) (by first|omega|simp;omega|simp))))).mono ?_; rintro e w1 ⟨rfl, hb_w1⟩; obtain ⟨hc_w1, hf_w1⟩ := bcell hb_w1; have hz_w1_wr_0 : wr.heap.size < w1.heap.size := (by have hzz := hb_w1.size; (try simp only [zA, zS, zD, zN] at hzz); omega); have hs_w1 := hb_w1.size; (try simp only [zA, zS, zD, zN] at hs_w1))
            go_ret
            exact ⟨rfl, (by repeat (first|exact bR _ _|assumption|refine bN ?_ _|refine bD ?_|refine bA ?_ (by first|omega|simp;omega|simp) _|refine bS ?_ (by first|omega|simp;omega|simp) _|refine bT ?_ (by assumption) (by first|omega|simp;omega|simp)))⟩
          · have hS2 := HS1 (hb'.1 rfl)
            clear HS1 HN hb'
            obtain ⟨f, p, z, an, aw, mn, mw, s⟩ := d
            unfold spv at HSj
            simp only at *
            go_wp2_with (go_at_call 179; refine (HSj.out _ ((hz.later hb_wr).later (by repeat (first|exact bR _ _|assumption|refine bN ?_ _|refine bD ?_|refine bA ?_ (by first|omega|simp;omega|simp) _|refine bS ?_ (by first|omega|simp;omega|simp) _|refine bT ?_ (by assumption) (by first|omega|simp;omega|simp)))) ((hr.later hb_wr).later (by repeat (first|exact bR _ _|assumption|refine bN ?_ _|refine bD ?_|refine bA ?_ (by first|omega|simp;omega|simp) _|refine bS ?_ (by first|omega|simp;omega|simp) _|refine bT ?_ (by assumption) (by first|omega|simp;omega|simp)))) (ra.later (by repeat (first|exact bR _ _|assumption|refine bN ?_ _|refine bD ?_|refine bA ?_ (by first|omega|simp;omega|simp) _|refine bS ?_ (by first|omega|simp;omega|simp) _|refine bT ?_ (by assumption) (by first|omega|simp;omega|simp)))) (rm.later (by repeat (first|exact bR _ _|assumption|refine bN ?_ _|refine bD ?_|refine bA ?_ (by first|omega|simp;omega|simp) _|refine bS ?_ (by first|omega|simp;omega|simp) _|refine bT ?_ (by assumption) (by first|omega|simp;omega|simp))))).mono ?_; rintro e w1 ⟨rfl, hb_w1⟩; obtain ⟨hc_w1, hf_w1⟩ := bcell hb_w1; have hz_w1_wr_0 : wr.heap.size < w1.heap.size := (by have hzz := hb_w1.size; (try simp only [zA, zS, zD, zN] at hzz); omega); have hs_w1 := hb_w1.size; (try simp only [zA, zS, zD, zN] at hs_w1); have n0 := (hc_w1 w.heap.size 0 (by first|omega|simp;omega|simp)).trans ((World.cell?_alloc_lt _ _ ⟨_, _, _⟩ (by first|omega|simp;omega|simp)).trans m0); have n1 := (hc_w1 w.heap.size 1 (by first|omega|simp;omega|simp)).trans ((World.cell?_alloc_lt _ _ ⟨_, _, _⟩ (by first|omega|simp;omega|simp)).trans m1); have n2 := (hc_w1 w.heap.size 2 (by first|omega|simp;omega|simp)).trans ((World.cell?_alloc_lt _ _ ⟨_, _, _⟩ (by first|omega|simp;omega|simp)).trans m2); have n3 := (hc_w1 w.heap.size 3 (by first|omega|simp;omega|simp)).trans ((World.cell?_alloc_lt _ _ ⟨_, _, _⟩ (by first|omega|simp;omega|simp)).trans m3))
            go_roundw
            case rel => exact ⟨j + 1, by go_num, by omega, hS2, ⟨n0, n1, n2, n3⟩, (by first|omega|simp;omega|simp), (by repeat (first|exact bR _ _|assumption|refine bN ?_ _|refine bD ?_|refine bA ?_ (by first|omega|simp;omega|simp) _|refine bS ?_ (by first|omega|simp;omega|simp) _|refine bT ?_ (by assumption) (by first|omega|simp;omega|simp)))⟩
            case measure => simp [intOf]; omega
        · obtain rfl : j = l.length := by omega
          obtain rfl : b = true := HB.out.2 ⟨fun i hi => HT.out i (by simp only at hi; omega), hS.out⟩
          go_wp2
          go_ret
          exact ⟨rfl, (by repeat (first|exact bR _ _|assumption|refine bN ?_ _|refine bD ?_|refine bA ?_ (by first|omega|simp;omega|simp) _|refine bS ?_ (by first|omega|simp;omega|simp) _|refine bT ?_ (by assumption) (by first|omega|simp;omega|simp)))⟩
end
end Go.Proofs.YtogfbdeplogcfaaGreatDoor
namespace Go.Proofs.YtogfbdeplogcfaaGreatDoor
open Go.RowKit
set_option maxRecDepth 100000

def curT (ws : List Nat) (l : List Sd) (i k : Nat) : List Ob := (obsL ws l i ++ obsS ws (nth l i) i k).filter (·.c)
theorem curT_next (ws : List Nat) (l : List Sd) (i : Nat) : curT ws l i (slN (nth l i)) = curT ws l (i + 1) 0 := by
  simp [curT, obsL, obsS]
theorem curT_end (h : Hp) : curT h.ws h.l h.l.length 0 = cursH h := by
  simp [curT, obsS, cursH, obsH]
theorem curT_hit (ws : List Nat) (l : List Sd) (i k : Nat) (ha : tb (nth l i).aw k = true) (hc : tb (curW (nth l i)) k = true) : curT ws l i (k + 1) = curT ws l i k ++ [obAt ws (nth l i) i k] := by
  unfold curT
  rw [obsS, if_pos ha, ← List.append_assoc, List.filter_append (_ ++ _)]
  have : (obAt ws (nth l i) i k).c = true := hc
  simp [this]
theorem curT_miss (ws : List Nat) (l : List Sd) (i k : Nat) (hc : tb (curW (nth l i)) k = false) : curT ws l i (k + 1) = curT ws l i k := by
  unfold curT
  rw [obsS, ← List.append_assoc, List.filter_append (_ ++ _)]
  split
  · have : (obAt ws (nth l i) i k).c = false := hc
    simp [this]
  · simp
theorem curT_skip (ws : List Nat) (l : List Sd) (i k : Nat) {j : Nat} (hkj : k ≤ j) (hc : ∀ q, k ≤ q → q < j → tb (curW (nth l i)) q = false) : curT ws l i j = curT ws l i k := by
  induction j with
  | zero => obtain rfl : k = 0 := by omega
            rfl
  | succ j ih =>
    by_cases e : k = j + 1
    · rw [e]
    · rw [curT_miss ws l i j (hc j (by omega) (by omega)), ih (by omega) fun q h1 h2 => hc q h1 (by omega)]
theorem obsS_pre (ws : List Nat) (d : Sd) (i : Nat) {k j : Nat} (hkj : k ≤ j) : obsS ws d i k <+: obsS ws d i j := by
  induction j with
  | zero => obtain rfl : k = 0 := by omega
            exact List.prefix_refl _
  | succ j ih =>
    by_cases e : k = j + 1
    · rw [e]; exact List.prefix_refl _
    · exact (ih (by omega)).trans (List.prefix_append _ _)
theorem obsL_pre (ws : List Nat) (l : List Sd) {i j : Nat} (hij : i ≤ j) : obsL ws l i <+: obsL ws l j := by
  induction j with
  | zero => obtain rfl : i = 0 := by omega
            exact List.prefix_refl _
  | succ j ih =>
    by_cases e : i = j + 1
    · rw [e]; exact List.prefix_refl _
    · exact (ih (by omega)).trans (List.prefix_append _ _)
theorem curT_pre (h : Hp) {i k : Nat} (hi : i < h.l.length) (hk : k ≤ slN (nth h.l i)) : curT h.ws h.l i k <+: cursH h := by
  have h1 : obsL h.ws h.l i ++ obsS h.ws (nth h.l i) i k <+: obsL h.ws h.l (i + 1) := by
    rw [obsL]
    exact (List.prefix_append_right_inj _).2 (obsS_pre _ _ _ hk)
  exact (h1.trans (obsL_pre h.ws h.l (j := h.l.length) (by omega))).filter _
theorem obsS_len (ws : List Nat) (d : Sd) (i k : Nat) : (obsS ws d i k).length ≤ k := by
  induction k with
  | zero => exact Nat.le_refl _
  | succ k ih =>
    rw [obsS, List.length_append]
    split <;> simp <;> omega
theorem obsL_len {ws : List Nat} {l : List Sd} (h : OkL l) {i : Nat} (hi : i ≤ l.length) : (obsL ws l i).length ≤ 8 * i := by
  induction i with
  | zero => exact Nat.le_refl _
  | succ i ih =>
    have h1 := ih (by omega)
    have h2 := obsS_len ws (nth l i) i (slN (nth l i))
    have h3 := (h.at_ (j := i) (by omega)).slK
    rw [obsL, List.length_append]
    omega
theorem cursH_len {h : Hp} (hl : OkL h.l) : (cursH h).length ≤ 2048 := by
  have h1 := obsL_len (ws := h.ws) hl (Nat.le_refl h.l.length)
  have h2 := List.length_filter_le (fun o : Ob => o.c) (obsH h)
  have h3 := hl.1
  unfold cursH
  unfold obsH at h2
  unfold obsH
  omega

def lastR : List Nat → Nat → Nat
  | [], _ => 0
  | a :: t, j => if a = j then t.length + 1 else lastR t j
def lastP (t : List Nat) (j : Nat) : Nat := lastR t.reverse j
theorem lastP_snoc (t : List Nat) (a j : Nat) : lastP (t ++ [a]) j = if a = j then t.length + 1 else lastP t j := by
  unfold lastP
  rw [List.reverse_append, List.reverse_singleton, List.singleton_append, lastR, List.length_reverse]
theorem lastR_le (t : List Nat) (j : Nat) : lastR t j ≤ t.length := by
  induction t with
  | nil => exact Nat.le_refl _
  | cons a t ih =>
    rw [lastR]
    split
    · simp
    · simp; omega
theorem lastP_le (t : List Nat) (j : Nat) : lastP t j ≤ t.length := by
  have := lastR_le t.reverse j
  rwa [List.length_reverse] at this
theorem lastP_hin {t : List Nat} (hn : t.Nodup) (h0 : 0 ∉ t) (j : Nat) : lastP t j = hin t j := by
  have key : ∀ (n : Nat) (t : List Nat), t.length = n → t.Nodup → ∀ j, (lastP t j ≠ 0 → t.getD (lastP t j - 1) 0 = j) ∧ (lastP t j = 0 → ∀ q, q < t.length → t.getD q 0 ≠ j) := by
    intro n
    induction n with
    | zero =>
      intro t ht _ j
      obtain rfl : t = [] := List.length_eq_zero_iff.1 ht
      exact ⟨fun h => absurd rfl h, fun _ q hq => by simp at hq⟩
    | succ n ih =>
      intro t ht hnd j
      obtain ⟨s, a, rfl⟩ : ∃ s a, t = s ++ [a] := by
        refine ⟨t.dropLast, t.getLast (by intro h; rw [h] at ht; simp at ht), ?_⟩
        exact (List.dropLast_concat_getLast _).symm
      have hs : s.length = n := by simpa using ht
      have hnd' : s.Nodup := (List.nodup_append.1 hnd).1
      obtain ⟨i1, i2⟩ := ih s hs hnd' j
      rw [lastP_snoc]
      by_cases e : a = j
      · rw [if_pos e]
        refine ⟨fun _ => ?_, fun h => by omega⟩
        rw [getD_snoc]
        simp [e]
      · rw [if_neg e]
        have hle := lastP_le s j
        refine ⟨fun h => ?_, fun h q hq => ?_⟩
        · rw [getD_snoc, if_pos (by omega)]
          exact i1 h
        · rw [getD_snoc]
          split
          · exact i2 h q (by assumption)
          · split
            · exact e
            · simp at hq; omega
  obtain ⟨k1, k2⟩ := key t.length t rfl hn j
  by_cases hz : lastP t j = 0
  · rw [hz, hin_miss (k2 hz)]
  · have hg := k1 hz
    have hle := lastP_le t j
    have hj : j ≠ 0 := by
      rintro rfl
      apply h0
      rw [← hg, List.getD_eq_getElem?_getD, List.getElem?_eq_getElem (by omega)]
      exact List.getElem_mem _
    have := hin_hit (t := t) (a := j) (k := lastP t j - 1) hj (by omega) hg (by
      intro q hq he
      have e1 : t[q]'(by omega) = t[lastP t j - 1]'(by omega) := by
        rw [List.getD_eq_getElem?_getD, List.getElem?_eq_getElem (by omega)] at hg he
        simp at hg he
        rw [hg, he]
      exact absurd ((List.getElem_inj hn).1 e1) (by omega))
    rw [this]
    omega
theorem addrs_nodup {h : Hp} (hl : OkL h.l) : (addrs (cursH h)).Nodup := by
  unfold addrs
  rw [List.nodup_iff_pairwise_ne, List.pairwise_map]
  exact (cursH_asc hl).imp fun hlt => by omega
theorem addrs_pos {h : Hp} (hf : Framed h) (ho : Owned h) (hs : Filled h) : 0 ∉ addrs (cursH h) := by
  intro hm
  unfold addrs at hm
  rw [List.mem_map] at hm
  obtain ⟨o, h1, h2⟩ := hm
  have := (OkH.ob hf ho hs (cursH_mem h1).1).a0
  omega
end Go.Proofs.YtogfbdeplogcfaaGreatDoor
namespace Go.Proofs.YtogfbdeplogcfaaGreatDoor
open Go.RowKit
set_option maxRecDepth 100000

def obV (o : Ob) : Value := .agg #[.int .u64 o.a, .int .i64 o.n, .int .u64 o.m, .int .i64 o.i, .int .i64 o.k, .bool o.b]
theorem res_ob {fn : Func} {p : Tmp} (h : fn.results = #[.cell p 143]) {tmps : Array Value} {w : World} {g : Nat} {v0 v1 v2 v3 v4 v5 : Value} (hp : tmps.getD p undef = .pointer (some ⟨g, 0, none⟩))
    (h0 : w.cell? ⟨g, 0, none⟩ = some v0) (h1 : w.cell? ⟨g, 1, none⟩ = some v1) (h2 : w.cell? ⟨g, 2, none⟩ = some v2) (h3 : w.cell? ⟨g, 3, none⟩ = some v3) (h4 : w.cell? ⟨g, 4, none⟩ = some v4) (h5 : w.cell? ⟨g, 5, none⟩ = some v5) :
    (results fn tmps).run Tryz.prog w = .ok (.agg #[v0, v1, v2, v3, v4, v5]) w := by
  have hp2 : tmps[p]?.getD undef = .pointer (some ⟨g, 0, none⟩) := by rw [← hp]; simp
  simp only [results, h]
  simp [go_sem, Result.andThen, h0, h1, h2, h3, h4, h5, asAddr, hp2]
theorem res_bits1 {fn : Func} {p : Tmp} (h : fn.results = #[.cell p 26]) {tmps : Array Value} {w : World} {g : Nat} {v0 v1 : Value} (hp : tmps.getD p undef = .pointer (some ⟨g, 0, none⟩))
    (h0 : w.cell? ⟨g, 0, none⟩ = some v0) (h1 : w.cell? ⟨g, 1, none⟩ = some v1) : (results fn tmps).run Tryz.prog w = .ok (.agg #[v0, v1]) w := by
  have hp2 : tmps[p]?.getD undef = .pointer (some ⟨g, 0, none⟩) := by rw [← hp]; simp
  simp only [results, h]
  simp [go_sem, Result.andThen, h0, h1, asAddr, hp2]
section
variable {w : World} {d : Sd} {A M : Option Addr} (ca cm : Nat)
theorem zcurs_any :
    Calls Tryz.prog 197 #[spv d A ca M cm] w fun e w' => e = .returned (.agg #[.int .i64 (if d.s then d.an else d.mn), .slice (if d.s then A else M) (curW d).length (if d.s then ca else cm)]) ∧ Below w.heap.size w w' := by
  obtain ⟨f, p, z, an, aw, mn, mw, s⟩ := d
  unfold spv curW
  simp only
  rcases s with _ | _
  · go_enter Tryz.func197, Tryz.ntmps197
    go_wp2
    refine bodyPost_ret (res_bits1 (g := w.heap.size + 1) (v0 := .int .i64 mn) (v1 := .slice M mw.length cm) rfl rfl ?_ ?_) rfl ?_
    · simp [go_sem]
    · simp [go_sem]
    · exact ⟨rfl, (by repeat (first|exact bR _ _|assumption|refine bN ?_ _|refine bD ?_|refine bA ?_ (by first|omega|simp;omega|simp) _|refine bS ?_ (by first|omega|simp;omega|simp) _|refine bT ?_ (by assumption) (by first|omega|simp;omega|simp)))⟩
  · go_enter Tryz.func197, Tryz.ntmps197
    go_wp2
    refine bodyPost_ret (res_bits1 (g := w.heap.size + 1) (v0 := .int .i64 an) (v1 := .slice A aw.length ca) rfl rfl ?_ ?_) rfl ?_
    · simp [go_sem]
    · simp [go_sem]
    · exact ⟨rfl, (by repeat (first|exact bR _ _|assumption|refine bN ?_ _|refine bD ?_|refine bA ?_ (by first|omega|simp;omega|simp) _|refine bS ?_ (by first|omega|simp;omega|simp) _|refine bT ?_ (by assumption) (by first|omega|simp;omega|simp)))⟩
end
section
variable {w : World} {n : Int} {A U V : Option Addr} {ws : List Nat} {l : List Sd} (ca nu cu cv : Nat)
set_option maxHeartbeats 1000000 in
theorem zobject_any (hr : Row w w.heap.size A ws) (hv : SRow w w.heap.size V l) (hl : ws.length ≤ 16384) (hok : OkL l) (i k : Nat) (hi : i < l.length) (hk : k < slN (nth l i)) :
    Calls Tryz.prog 199 #[hpv A ws.length ca n U nu cu V l.length cv, .int .i64 (i : Nat), .int .i64 (k : Nat)] w fun e w' => e = .returned (obV (obAt ws (nth l i) i k)) ∧ Below w.heap.size w w' := by
  have ok := hok.at_ hi
  have hl256 := hok.1
  obtain ⟨N1, N8, HN⟩ := ok.slK
  have hpl := ok.placed
  unfold Placed at hpl
  have hsz := ok.sized.slots
  obtain ⟨e1, e2, e3⟩ := ok.slA_eq hk
  have HAE := Lib.hid (show AddrE (nth l i) (k : Int) ((slA (nth l i) k : Nat) : Int) 0 from .inl ⟨ok, by omega, by omega, e1, rfl⟩)
  have HM := Lib.hid ok.m
  have hmn := ok.mn
  have hM1 : (k : Int) < (nth l i).mn := by rw [hmn]; omega
  obtain ⟨bb, off, rfl, hbb, hc⟩ := hv.at_ (by omega)
  obtain ⟨Aa, caa, Am, cam, c8, ra, rm⟩ := hc i hi
  unfold obAt obV
  simp only
  generalize hd : nth l i = d at *
  obtain ⟨a, ha⟩ : ∃ a, Hid (slA d k = a) := ⟨_, rfl⟩
  rw [ha.out] at HAE e1 ⊢
  obtain ⟨x, hx⟩ : ∃ x, Hid (ws.getD a 0 = x) := ⟨_, rfl⟩
  have hxl : x < W64 := by rw [← hx.out]; exact hr.words.at_ _
  rw [hx.out]
  obtain ⟨t, ht⟩ : ∃ t, Hid (tb d.mw k = t) := ⟨_, rfl⟩
  rw [ht.out]
  have HAD := Lib.hid fun (w : World) hA hM => sAddr_any (w := w) (d := d) (A := Aa) (M := Am) caa cam hA hM (k : Int) (a : Nat) 0 HAE.out
  have HWO := Lib.hid fun (w : World) hr => zword_any (w := w) (n := n) (A := A) (U := U) (V := some ⟨bb, off, none⟩) (ws := ws) ca cu cv nu l.length a hr (by unfold W64; omega)
  rw [gotA_eq hl, hx.out] at HWO
  have HUN := Lib.hid fun (w : World) => hunpack_any (w := w) x hxl
  have HGE := Lib.hid fun (w : World) hA => get_in (w := w) (n := d.mn) (A := Am) (ws := d.mw) cam (k : Int) hA HM.out (by omega) hM1
  rw [Int.toNat_natCast, ht.out] at HGE
  generalize unN x = un at *
  generalize unM x = um at *
  generalize unY x = uy at *
  clear hc hd HAE e1 e2 e3 hpl hsz hmn hM1 ok N1 N8 HN
  obtain ⟨c0, c1, c2, c3, c4, c5, c6, c7⟩ := id c8
  obtain ⟨f, p, z, an, aw, mn, mw, s⟩ := d
  unfold spv at HAD
  unfold hpv at HWO ⊢
  simp only at *
  have i0 : (0 : Int) ≤ (i : Int) := by omega
  have i1 : (i : Int) < (l.length : Int) := by omega
  clear c8 hk
  have C4 : Hid (w.cell? ⟨bb, off + i * 8 + 4, none⟩ = _) := Lib.hid c4
  have CC := Lib.hid c5
  have CD := Lib.hid c6
  go_enter Tryz.func199, Tryz.ntmps199
  go_wp2_with fail
  go_at_call 126
  refine (HAD.out _ (ra.later (by repeat (first|exact bR _ _|assumption|refine bN ?_ _|refine bD ?_|refine bA ?_ (by first|omega|simp;omega|simp) _|refine bS ?_ (by first|omega|simp;omega|simp) _|refine bT ?_ (by assumption) (by first|omega|simp;omega|simp)))) (rm.later (by repeat (first|exact bR _ _|assumption|refine bN ?_ _|refine bD ?_|refine bA ?_ (by first|omega|simp;omega|simp) _|refine bS ?_ (by first|omega|simp;omega|simp) _|refine bT ?_ (by assumption) (by first|omega|simp;omega|simp))))).mono ?_
  rintro e w1 ⟨rfl, hb_w1⟩
  obtain ⟨hc_w1, hf_w1⟩ := bcell hb_w1; have hz_w1_w_0 : w.heap.size < w1.heap.size := (by have hzz := hb_w1.size; (try simp only [zA, zS, zD, zN] at hzz); omega); have hz_w1_w_1 : w.heap.size + 1 < w1.heap.size := (by have hzz := hb_w1.size; (try simp only [zA, zS, zD, zN] at hzz); omega); have hs_w1 := hb_w1.size; (try simp only [zA, zS, zD, zN] at hs_w1)
  have m0 : w1.cell? ⟨w.heap.size, 0, none⟩ = some (.slice A ws.length ca) := (hc_w1 _ _ (by first|omega|simp;omega|simp)).trans (by simp [go_sem])
  have m1 : w1.cell? ⟨w.heap.size, 1, none⟩ = some (.int .i64 n) := (hc_w1 _ _ (by first|omega|simp;omega|simp)).trans (by simp [go_sem])
  have m2 : w1.cell? ⟨w.heap.size, 2, none⟩ = some (.slice U nu cu) := (hc_w1 _ _ (by first|omega|simp;omega|simp)).trans (by simp [go_sem])
  have m3 : w1.cell? ⟨w.heap.size, 3, none⟩ = some (.slice (some ⟨bb, off, none⟩) l.length cv) := (hc_w1 _ _ (by first|omega|simp;omega|simp)).trans (by simp [go_sem])
  have r0 : w1.cell? ⟨w.heap.size + 1, 0, none⟩ = some (.int .u64 0) := (hc_w1 _ _ (by first|omega|simp;omega|simp)).trans (by simp [go_sem])
  have s0 : w1.frozen? ⟨w.heap.size + 1, 0, none⟩ = false := (hf_w1 _ _ (by first|omega|simp;omega|simp)).trans (by simp [go_sem])
  have r1 : w1.cell? ⟨w.heap.size + 1, 1, none⟩ = some (.int .i64 0) := (hc_w1 _ _ (by first|omega|simp;omega|simp)).trans (by simp [go_sem])
  have s1 : w1.frozen? ⟨w.heap.size + 1, 1, none⟩ = false := (hf_w1 _ _ (by first|omega|simp;omega|simp)).trans (by simp [go_sem])
  have r2 : w1.cell? ⟨w.heap.size + 1, 2, none⟩ = some (.int .u64 0) := (hc_w1 _ _ (by first|omega|simp;omega|simp)).trans (by simp [go_sem])
  have s2 : w1.frozen? ⟨w.heap.size + 1, 2, none⟩ = false := (hf_w1 _ _ (by first|omega|simp;omega|simp)).trans (by simp [go_sem])
  have r3 : w1.cell? ⟨w.heap.size + 1, 3, none⟩ = some (.int .i64 0) := (hc_w1 _ _ (by first|omega|simp;omega|simp)).trans (by simp [go_sem])
  have s3 : w1.frozen? ⟨w.heap.size + 1, 3, none⟩ = false := (hf_w1 _ _ (by first|omega|simp;omega|simp)).trans (by simp [go_sem])
  have r4 : w1.cell? ⟨w.heap.size + 1, 4, none⟩ = some (.int .i64 0) := (hc_w1 _ _ (by first|omega|simp;omega|simp)).trans (by simp [go_sem])
  have s4 : w1.frozen? ⟨w.heap.size + 1, 4, none⟩ = false := (hf_w1 _ _ (by first|omega|simp;omega|simp)).trans (by simp [go_sem])
  have r5 : w1.cell? ⟨w.heap.size + 1, 5, none⟩ = some (.bool false) := (hc_w1 _ _ (by first|omega|simp;omega|simp)).trans (by simp [go_sem])
  have s5 : w1.frozen? ⟨w.heap.size + 1, 5, none⟩ = false := (hf_w1 _ _ (by first|omega|simp;omega|simp)).trans (by simp [go_sem])
  have R1 := Lib.hid (And.intro r0 (And.intro r1 (And.intro r2 (And.intro r3 (And.intro r4 (And.intro r5 (And.intro s0 (And.intro s1 (And.intro s2 (And.intro s3 (And.intro s4 s5)))))))))))
  clear r0 r1 r2 r3 r4 r5 s0 s1 s2 s3 s4 s5
  have hB1 : Below w.heap.size w w1 := (by repeat (first|exact bR _ _|assumption|refine bN ?_ _|refine bD ?_|refine bA ?_ (by first|omega|simp;omega|simp) _|refine bS ?_ (by first|omega|simp;omega|simp) _|refine bT ?_ (by assumption) (by first|omega|simp;omega|simp)))
  have hb_w1' := Lib.hid hB1
  clear c0 c1 c2 c3 c4 c5 c6 c7 hc_w1 hf_w1
  go_wp2_with fail
  go_at_call 81
  refine (HWO.out _ (hr.later hB1)).mono ?_
  rintro e w2 ⟨rfl, hb_w2⟩
  obtain ⟨hc_w2, hf_w2⟩ := bcell hb_w2; have hs_w2 := hb_w2.size; (try simp only [zA, zS, zD, zN] at hs_w2)
  have n0 := (hc_w2 w.heap.size 0 (by first|omega|simp;omega|simp)).trans m0
  have n1 := (hc_w2 w.heap.size 1 (by first|omega|simp;omega|simp)).trans m1
  have n2 := (hc_w2 w.heap.size 2 (by first|omega|simp;omega|simp)).trans m2
  have n3 := (hc_w2 w.heap.size 3 (by first|omega|simp;omega|simp)).trans m3
  have hB2 : Below w.heap.size w w2 := (by repeat (first|exact bR _ _|assumption|refine bN ?_ _|refine bD ?_|refine bA ?_ (by first|omega|simp;omega|simp) _|refine bS ?_ (by first|omega|simp;omega|simp) _|refine bT ?_ (by assumption) (by first|omega|simp;omega|simp)))
  clear m0 m1 m2 m3 hc_w2 hf_w2
  go_wp2_with fail
  go_at_call 212
  refine (HUN.out _).mono ?_
  rintro e w3 ⟨rfl, hb_w3⟩
  obtain ⟨hc_w3, hf_w3⟩ := bcell hb_w3; have hs_w3 := hb_w3.size; (try simp only [zA, zS, zD, zN] at hs_w3)
  have m0 := (hc_w3 w.heap.size 0 (by first|omega|simp;omega|simp)).trans n0
  have m1 := (hc_w3 w.heap.size 1 (by first|omega|simp;omega|simp)).trans n1
  have m2 := (hc_w3 w.heap.size 2 (by first|omega|simp;omega|simp)).trans n2
  have m3 := (hc_w3 w.heap.size 3 (by first|omega|simp;omega|simp)).trans n3
  have hB3 : Below w.heap.size w w3 := (by repeat (first|exact bR _ _|assumption|refine bN ?_ _|refine bD ?_|refine bA ?_ (by first|omega|simp;omega|simp) _|refine bS ?_ (by first|omega|simp;omega|simp) _|refine bT ?_ (by assumption) (by first|omega|simp;omega|simp)))
  have p0l : w.heap.size < w3.heap.size := by omega
  have pbl : bb < w3.heap.size := by omega
  have c5 : w3.cell? ⟨bb, off + i * 8 + 5, none⟩ = some (.int .i64 mn) := (hB3.cell (p := ⟨bb, _, none⟩) hbb).trans CC.out
  have c6 : w3.cell? ⟨bb, off + i * 8 + 6, none⟩ = some (.slice Am mw.length cam) := (hB3.cell (p := ⟨bb, _, none⟩) hbb).trans CD.out
  clear n0 n1 n2 n3 hc_w3 hf_w3
  go_wp2_with fail
  go_at_call 201
  refine (HGE.out _ (rm.later (by repeat (first|exact bR _ _|assumption|refine bN ?_ _|refine bD ?_|refine bA ?_ (by first|omega|simp;omega|simp) _|refine bS ?_ (by first|omega|simp;omega|simp) _|refine bT ?_ (by assumption) (by first|omega|simp;omega|simp))))).mono ?_
  rintro e w4 ⟨rfl, hb_w4⟩
  obtain ⟨hc_w4, hf_w4⟩ := bcell hb_w4; have hs_w4 := hb_w4.size; (try simp only [zA, zS, zD, zN] at hs_w4)
  have q0 : w4.cell? ⟨w3.heap.size, 0, none⟩ = some (.int .i64 un) := (hc_w4 _ _ (by first|omega|simp;omega|simp)).trans (by simp [go_sem])
  have q1 : w4.cell? ⟨w3.heap.size, 1, none⟩ = some (.int .u64 (um : Nat)) := (hc_w4 _ _ (by first|omega|simp;omega|simp)).trans (by simp [go_sem])
  clear hc_w4 hf_w4
  clear hB1 hB2 hB3
  have hB5 : Below (w.heap.size + 2) w1 w4 := (by repeat (first|exact bR _ _|assumption|refine bN ?_ _|refine bD ?_|refine bA ?_ (by first|omega|simp;omega|simp) _|refine bS ?_ (by first|omega|simp;omega|simp) _|refine bT ?_ (by assumption) (by first|omega|simp;omega|simp)))
  have hB4 : Below w.heap.size w w4 := hb_w1'.out.trans (hB5.mono (by first|omega|simp;omega|simp))
  obtain ⟨hr0, hr1, hr2, hr3, hr4, hr5, hs0, hs1, hs2, hs3, hs4, hs5⟩ := R1.out
  replace hr0 := ((bcell hB5).1 (w.heap.size + 1) _ (by first|omega|simp;omega|simp)).trans hr0
  replace hs0 := ((bcell hB5).2 (w.heap.size + 1) _ (by first|omega|simp;omega|simp)).trans hs0
  replace hr1 := ((bcell hB5).1 (w.heap.size + 1) _ (by first|omega|simp;omega|simp)).trans hr1
  replace hs1 := ((bcell hB5).2 (w.heap.size + 1) _ (by first|omega|simp;omega|simp)).trans hs1
  replace hr2 := ((bcell hB5).1 (w.heap.size + 1) _ (by first|omega|simp;omega|simp)).trans hr2
  replace hs2 := ((bcell hB5).2 (w.heap.size + 1) _ (by first|omega|simp;omega|simp)).trans hs2
  replace hr3 := ((bcell hB5).1 (w.heap.size + 1) _ (by first|omega|simp;omega|simp)).trans hr3
  replace hs3 := ((bcell hB5).2 (w.heap.size + 1) _ (by first|omega|simp;omega|simp)).trans hs3
  replace hr4 := ((bcell hB5).1 (w.heap.size + 1) _ (by first|omega|simp;omega|simp)).trans hr4
  replace hs4 := ((bcell hB5).2 (w.heap.size + 1) _ (by first|omega|simp;omega|simp)).trans hs4
  replace hr5 := ((bcell hB5).1 (w.heap.size + 1) _ (by first|omega|simp;omega|simp)).trans hr5
  replace hs5 := ((bcell hB5).2 (w.heap.size + 1) _ (by first|omega|simp;omega|simp)).trans hs5
  clear hb_w1 hb_w2 hb_w3 hb_w4 m0 m1 m2 m3 c5 c6
  go_wp2
  refine bodyPost_ret (res_ob (g := w.heap.size + 1) (v0 := .int .u64 a) (v1 := .int .i64 un) (v2 := .int .u64 um) (v3 := .int .i64 i) (v4 := .int .i64 k) (v5 := .bool t) rfl rfl ?_ ?_ ?_ ?_ ?_ ?_) rfl ?_
  · simp [go_sem, hr0]
  · simp [go_sem, hr1]
  · simp [go_sem, hr2]
  · simp [go_sem, hr3]
  · simp [go_sem, hr4]
  · simp [go_sem, hr5]
  · refine ⟨rfl, ?_⟩
    iterate 6 (refine Below.setCell ?_ (by first|omega|simp;omega|simp) _)
    exact hB4
end
end Go.Proofs.YtogfbdeplogcfaaGreatDoor
