/- Contracts of package asm: program. -/
import Derived.Test.YtggaijdbaplfiaaGreatDoorAs22
namespace Go.Proofs.YtggaijdbaplfiaaGreatDoor
open Go.RowKit
set_option linter.unusedVariables false
set_option linter.unusedSimpArgs false
theorem length_flatC (l : Cms) : (flatC l).length = l.length * 13 := by
  induction l with
  | nil => rfl
  | cons s l ih =>
    have : flatC (s :: l) = cmc s ++ flatC l := rfl
    rw [this, List.length_append, ih, List.length_cons]
    simp only [cmc, List.length_cons, List.length_nil]
    omega
theorem flatC_at (l : Cms) : ∀ (k : Nat) (hk : k < l.length) (j : Nat) (hj : j < 13), (flatC l)[k * 13 + j]? = (cmc l[k])[j]? := by
  induction l with
  | nil => intro k hk; simp at hk
  | cons s l ih =>
    intro k hk j hj
    have e : flatC (s :: l) = cmc s ++ flatC l := rfl
    have h13 : (cmc s).length = 13 := rfl
    rw [e]
    cases k with
    | zero =>
      rw [List.getElem?_append_left (by rw [h13]; omega)]
      simp
    | succ k =>
      rw [List.getElem?_append_right (by rw [h13]; omega), h13, show (k + 1) * 13 + j - 13 = k * 13 + j by omega, ih k (by simp at hk; omega) j hj]
      rfl
def CmOk (cs : Cms) : Prop := ∀ c ∈ cs, c.2.1.length ≤ 65536 ∧ c.2.2 ≤ 100000
def ProgR (w : World) (R : List In × Nat × Int) (r : Ending) (w' : World) : Prop := ∃ A cap, r = .returned (.tuple #[.slice A R.1.length cap, .int .i64 (R.2.1 : Nat), .int .i64 R.2.2]) ∧ OwnsI w' w.heap.size (.slice A R.1.length cap) R.1 ∧ Below w.heap.size w w'
theorem progR_no {w w' : World} {R : List In × Nat × Int} {k : Nat} {y : Int} (hR : R = ([], k, y)) (hb : Below w.heap.size w w') (z : Int) (hz : z = (k : Nat)) : ProgR w R (.returned (.tuple #[.slice none 0 0, .int .i64 z, .int .i64 y])) w' := by
  subst hR hz
  exact ⟨none, 0, rfl, own_nilI _ _ 0, hb⟩
section
variable {w : World}
set_option maxRecDepth 100000 in
set_option maxHeartbeats 16000000 in
theorem aprogram_any (B g M : Nat) (lb : Lbs) (cs : Cms) (h : RD w B g M lb cs) (hok : LbOk lb) (hcm : CmOk cs) (hc : cs.length ≤ 256) :
    Calls Tryz.prog 22 #[.pointer (some ⟨g, 0, none⟩)] w fun e w' => ProgR w (progL lb cs []) e w' := by
  have hgB := h.gB
  have hBw := h.Bw
  have hgw : g < w.heap.size := by omega
  obtain ⟨R, rcap, c1, hrow⟩ := h.row
  have c0 := h.c0
  have OM := Lib.hid h.map
  have HR0 : Hid (progL lb (cs.drop 0) [] = progL lb cs []) := Lib.hid rfl
  have HRW : Hid (∀ k (hk : k < cs.length), ∃ ga, R = some ⟨ga, 0, none⟩ ∧ ga < w.heap.size ∧ ∀ j v, j < 13 → (cmc cs[k])[j]? = some v → w.cell? ⟨ga, k * 13 + j, none⟩ = some v) := Lib.hid fun k hk => by
    obtain ⟨_, ⟨h1, h2⟩ | ⟨ga, cap', cur, e, hB', hg, hcc, _, hs, ht⟩⟩ := id hrow
    · omega
    · injection e with e1 e2 e3
      subst e1 e3
      refine ⟨ga, rfl, heap_lt hg, fun j v hj hv => ?_⟩
      rw [hrow.cellAt (k * 13 + j) (by omega), flatC_at cs k hk j hj, hv]
  have HDR : Hid (∀ k (hk : k < cs.length), cs.drop k = cs[k] :: cs.drop (k + 1)) := Lib.hid fun k hk => List.drop_eq_getElem_cons hk
  have HEN : Hid (cs.drop cs.length = []) := Lib.hid (by simp)
  have HCM : Hid (∀ k (hk : k < cs.length), (cs[k]).2.1.length ≤ 65536 ∧ (cs[k]).2.2 ≤ 100000) := Lib.hid fun k hk => hcm _ (List.getElem_mem hk)
  have HOK := Lib.hid hok
  clear hrow h hcm hok
  generalize progL lb cs [] = RT at *
  go_enter Tryz.func22, Tryz.ntmps22
  go_wp2_with fail
  go_loopw [5, 15] (fun ll ii wr => ∃ (k : Nat) (A : Option Addr) (cap : Nat) (acc : List In), ii = .int .i64 (k : Nat) ∧ k ≤ cs.length ∧ Hid (acc.length = k) ∧ ll = .slice A k cap ∧ Hid (wr.ownsRow w.heap.size 37 11 (.slice A k cap) k (flatI acc)) ∧ Hid (progL lb (cs.drop k) acc = RT) ∧ Below w.heap.size w wr) (fun ll ii _ => cs.length - (intOf ii).toNat)
  case atStart => exact ⟨0, none, 0, [], rfl, Nat.zero_le _, Lib.hid rfl, rfl, Lib.hid (World.ownsRow_nil _ _ _ _), HR0, (by repeat (first | exact Below.refl _ _ | assumption | (refine below_drewN ?_ _) | (refine Below.drew ?_) | (refine Below.alloc ?_ (by first | omega | (simp; omega) | simp) _) | (refine Below.setCell ?_ (by first | omega | (simp; omega) | simp) _) | (refine below_trans ?_ (by assumption) (by first | omega | (simp; omega) | simp))))⟩
  case round =>
    clear HR0
    obtain ⟨k, A, cap, acc, rfl, hk, hal, rfl, OW, HP, hb_wr⟩ := hrel
    have hsr := hb_wr.size
    by_cases hlt : k < cs.length
    · obtain ⟨ga, rfl, hga, hcl⟩ := HRW.out k hlt
      obtain ⟨hc1, hc2⟩ := HCM.out k hlt
      have hp := HP.out
      rw [HDR.out k hlt] at hp
      have hk0 : (0 : Int) ≤ (k : Int) := by omega
      have hk1 : (k : Int) < (cs.length : Int) := by omega
      obtain ⟨cc, hcc⟩ : ∃ cc, cs[k] = cc := ⟨_, rfl⟩
      rw [hcc] at hcl hc1 hc2 hp
      obtain ⟨x, gl, ln⟩ := cc
      simp only at hc1 hc2
      have hcr : ∀ j v, j < 13 → (cmc (x, gl, ln))[j]? = some v → wr.cell? ⟨ga, k * 13 + j, none⟩ = some v := fun j v hj hv => (hb_wr.cell (p := ⟨ga, k * 13 + j, none⟩) hga).trans (hcl j v hj hv)
      have a0 := hcr 0 _ (by omega) rfl
      have a1 := hcr 1 _ (by omega) rfl
      have a2 := hcr 2 _ (by omega) rfl
      have a3 := hcr 3 _ (by omega) rfl
      have a4 := hcr 4 _ (by omega) rfl
      have a5 := hcr 5 _ (by omega) rfl
      have a6 := hcr 6 _ (by omega) rfl
      have a7 := hcr 7 _ (by omega) rfl
      have a8 := hcr 8 _ (by omega) rfl
      have a9 := hcr 9 _ (by omega) rfl
      have a10 := hcr 10 _ (by omega) rfl
      have a11 := hcr 11 _ (by omega) rfl
      have a12 := hcr 12 _ (by omega) rfl
      have g0 : wr.cell? ⟨g, 0, none⟩ = some (.map (some M)) := ((bcell hb_wr).1 g 0 hgw).trans c0
      have hgr : g < wr.heap.size := by omega
      simp only [Nat.add_zero] at a0
      have HP1 := Lib.hid hp
      clear hcl hcr hcc hp HP hlt
      by_cases hgl : gl = []
      · subst hgl
        have HP2 : Hid (progL lb (cs.drop (k + 1)) (acc ++ [x]) = RT) := Lib.hid (by rw [← HP1.out]; rfl)
        have e1 : (bs []).toList.isEmpty = true := by rw [ByteArray.toList_eq, bs_data]; rfl
        clear HP1
        go_wp2_with (at_builtin; refine wpList_appendI ?_ (.tmp 39) (.tmp 42) ?_ w.heap.size A cap k (flatI acc) ?_ (owns_laterI OW.out (show Below wr.heap.size wr _ from (by repeat (first | exact Below.refl _ _ | assumption | (refine below_drewN ?_ _) | (refine Below.drew ?_) | (refine Below.alloc ?_ (by first | omega | (simp; omega) | simp) _) | (refine Below.setCell ?_ (by first | omega | (simp; omega) | simp) _) | (refine below_trans ?_ (by assumption) (by first | omega | (simp; omega) | simp)))))) (some ⟨wr.heap.size + 1, 0, none⟩) 1 1 (flatI [x]) ?_ rfl (fun _ => ⟨wr.heap.size + 1, 0, rfl, fun j u hj => fl_liesG (wr.alloc (.cells #[.int .u8 x.kd, .int .u8 x.op, .int .i64 x.oa, .int .i64 x.ob, .int .i64 x.fd, .int .i64 x.n, .int .u64 x.m, .int .u64 x.w, .int .i64 x.a, .int .i64 x.b, .int .i64 x.to, .string (bs []), .int .i64 (ln : Nat)] 74)) (wr.heap.size + 1) (by simp [go_sem]) (flatI [x]) 37 j u hj⟩) (flatI_one _) (by omega) (by simp; omega) ?_; rfl; rfl; rfl; rfl; intro A7 cap7 w7 hown7 hg7 hb_w7 hat7; have hs7 := hb_w7.size)
        rw [← flatI_append] at hown7
        have HO7 := Lib.hid hown7
        have b7 : Below w.heap.size w w7 := (by repeat (first | exact Below.refl _ _ | assumption | (refine below_drewN ?_ _) | (refine Below.drew ?_) | (refine Below.alloc ?_ (by first | omega | (simp; omega) | simp) _) | (refine Below.setCell ?_ (by first | omega | (simp; omega) | simp) _) | (refine below_trans ?_ (by assumption) (by first | omega | (simp; omega) | simp))))
        clear hown7
        go_roundw
        case rel => exact ⟨k + 1, A7, cap7, acc ++ [x], by go_num, by omega, Lib.hid (by rw [List.length_append, hal.out]; rfl), rfl, HO7, HP2, b7⟩
        case measure => simp [intOf]; omega
      · have e1 : (bs gl).toList.isEmpty = false := by rw [ByteArray.toList_eq, bs_data]; simpa using hgl
        have hp := HP1.out
        rw [progL, if_neg hgl] at hp
        simp only at hp
        have hlk := (OM.out.later (show Below w.heap.size w (wr.alloc (.cells #[.int .u8 x.kd, .int .u8 x.op, .int .i64 x.oa, .int .i64 x.ob, .int .i64 x.fd, .int .i64 x.n, .int .u64 x.m, .int .u64 x.w, .int .i64 x.a, .int .i64 x.b, .int .i64 x.to, .string (bs gl), .int .i64 (ln : Nat)] 74)).drew from (by repeat (first | exact Below.refl _ _ | assumption | (refine below_drewN ?_ _) | (refine Below.drew ?_) | (refine Below.alloc ?_ (by first | omega | (simp; omega) | simp) _) | (refine Below.setCell ?_ (by first | omega | (simp; omega) | simp) _) | (refine below_trans ?_ (by assumption) (by first | omega | (simp; omega) | simp)))))).look HOK.out (s := bs gl) (by rw [bs_size]; unfold maxLen; omega)
        rw [bs_data] at hlk
        cases hq : lb.lookup gl with
        | none =>
          rw [hq] at hp hlk
          simp only [Option.getD_none, Option.isSome_none] at hp hlk
          have HP2 := Lib.hid hp
          clear hp HP1 hgl hq
          go_wp2_with fail
          refine wp_region_held_drew (S := (fun X : World => X.cell? ⟨wr.heap.size, 0, none⟩ = some (.int .u8 x.kd) ∧ X.cell? ⟨wr.heap.size, 1, none⟩ = some (.int .u8 x.op) ∧ X.cell? ⟨wr.heap.size, 2, none⟩ = some (.int .i64 x.oa) ∧ X.cell? ⟨wr.heap.size, 3, none⟩ = some (.int .i64 x.ob) ∧ X.cell? ⟨wr.heap.size, 4, none⟩ = some (.int .i64 x.fd) ∧ X.cell? ⟨wr.heap.size, 5, none⟩ = some (.int .i64 x.n) ∧ X.cell? ⟨wr.heap.size, 6, none⟩ = some (.int .u64 x.m) ∧ X.cell? ⟨wr.heap.size, 7, none⟩ = some (.int .u64 x.w) ∧ X.cell? ⟨wr.heap.size, 8, none⟩ = some (.int .i64 x.a) ∧ X.cell? ⟨wr.heap.size, 9, none⟩ = some (.int .i64 x.b) ∧ X.cell? ⟨wr.heap.size, 10, none⟩ = some (.int .i64 x.to) ∧ X.cell? ⟨wr.heap.size, 11, none⟩ = some (.string (bs gl)) ∧ X.cell? ⟨wr.heap.size, 12, none⟩ = some (.int .i64 (ln : Nat)) ∧ X.cell? ⟨g, 0, none⟩ = some (.map (some M)))) (by kernel_rfl) ?_ (fun hHeld => ?_)
          · (try dsimp only); refine ⟨?_, ?_, ?_, ?_, ?_, ?_, ?_, ?_, ?_, ?_, ?_, ?_, ?_, ?_⟩ <;> first | assumption | (simp [go_sem]; done) | exact (World.cell?_alloc_lt _ _ ⟨_, _, _⟩ (by first | omega | (simp; omega) | simp)).trans (by assumption)
          refine wpAnyH_take (i := 0) (v := ?_) rfl (by kernel_rfl) (by kernel_rfl) (by kernel_rfl) (fun _ _ _ h => h) (Or.inl ⟨by rfl, ?_⟩) (by assumption) ?_
          rotate_left
          · (intro w hSw; (try dsimp only at hSw); go_simp; first | done | with_reducible rfl)
          try simp only [Act.put, List.getElem_toArray, List.getElem_cons_zero, List.getElem_cons_succ, List.setIfInBounds_toArray, List.set_cons_zero, List.set_cons_succ]
          refine wpAnyH_take (i := 1) (v := ?_) rfl (by kernel_rfl) (by kernel_rfl) (by kernel_rfl) (fun _ _ _ h => h) (Or.inl ⟨by rfl, ?_⟩) (by assumption) ?_
          rotate_left
          · (intro w hSw; (try dsimp only at hSw); go_simp; first | done | with_reducible rfl)
          try simp only [Act.put, List.getElem_toArray, List.getElem_cons_zero, List.getElem_cons_succ, List.setIfInBounds_toArray, List.set_cons_zero, List.set_cons_succ]
          refine wpAnyH_take (i := 2) (v := ?_) rfl (by kernel_rfl) (by kernel_rfl) (by kernel_rfl) (fun _ _ _ h => h) (Or.inl ⟨by rfl, ?_⟩) (by assumption) ?_
          rotate_left
          · (intro w hSw; (try dsimp only at hSw); go_simp; first | done | with_reducible rfl)
          try simp only [Act.put, List.getElem_toArray, List.getElem_cons_zero, List.getElem_cons_succ, List.setIfInBounds_toArray, List.set_cons_zero, List.set_cons_succ]
          refine wpAnyH_take (i := 3) (v := ?_) rfl (by kernel_rfl) (by kernel_rfl) (by kernel_rfl) (fun _ _ _ h => h) (Or.inl ⟨by rfl, ?_⟩) (by assumption) ?_
          rotate_left
          · (intro w hSw; (try dsimp only at hSw); go_simp; first | done | with_reducible rfl)
          try simp only [Act.put, List.getElem_toArray, List.getElem_cons_zero, List.getElem_cons_succ, List.setIfInBounds_toArray, List.set_cons_zero, List.set_cons_succ]
          refine wpAnyH_take (i := 4) (v := ?_) rfl (by kernel_rfl) (by kernel_rfl) (by kernel_rfl) (fun _ _ _ h => h) (Or.inl ⟨by rfl, ?_⟩) (by assumption) ?_
          rotate_left
          · (intro w hSw; (try dsimp only at hSw); go_simp; first | done | with_reducible rfl)
          try simp only [Act.put, List.getElem_toArray, List.getElem_cons_zero, List.getElem_cons_succ, List.setIfInBounds_toArray, List.set_cons_zero, List.set_cons_succ]
          refine wpAnyH_take (i := 5) (v := ?_) rfl (by kernel_rfl) (by kernel_rfl) (by kernel_rfl) (fun _ _ _ h => h) (Or.inl ⟨by rfl, ?_⟩) (by assumption) ?_
          rotate_left
          · (intro w hSw; (try dsimp only at hSw); go_simp; first | done | with_reducible rfl)
          try simp only [Act.put, List.getElem_toArray, List.getElem_cons_zero, List.getElem_cons_succ, List.setIfInBounds_toArray, List.set_cons_zero, List.set_cons_succ]
          refine wpAnyH_ready (rs := [6]) (by kernel_rfl) (by simp) ?_
          refine AllReadyH.cons rfl (fun K hK => ?_) AllReadyH.nil
          try simp only [List.getElem_toArray, List.getElem_cons_zero, List.getElem_cons_succ]
          go_simp
          refine hK.out _ _ ?_ (fun hHeld => ?_)
          · (try dsimp only); refine ⟨?_, ?_, ?_, ?_, ?_, ?_, ?_, ?_, ?_, ?_, ?_, ?_, ?_, ?_⟩ <;> first | assumption | (simp [go_sem]; done) | exact (World.cell?_alloc_lt _ _ ⟨_, _, _⟩ (by first | omega | (simp; omega) | simp)).trans (by assumption)
          clear hK K
          try simp only [Act.put, List.getElem_toArray, List.getElem_cons_zero, List.getElem_cons_succ, List.setIfInBounds_toArray, List.set_cons_zero, List.set_cons_succ]
          refine wpAnyH_take (i := 7) (v := ?_) rfl (by kernel_rfl) (by kernel_rfl) (by kernel_rfl) (fun _ _ _ h => h) (Or.inl ⟨by rfl, ?_⟩) (by assumption) ?_
          rotate_left
          · (intro w hSw; (try dsimp only at hSw); go_simp; first | done | with_reducible rfl)
          try simp only [Act.put, List.getElem_toArray, List.getElem_cons_zero, List.getElem_cons_succ, List.setIfInBounds_toArray, List.set_cons_zero, List.set_cons_succ]
          refine wpAnyH_take (i := 8) (v := ?_) rfl (by kernel_rfl) (by kernel_rfl) (by kernel_rfl) (fun _ _ _ h => h) (Or.inl ⟨by rfl, ?_⟩) (by assumption) ?_
          rotate_left
          · (intro w hSw; (try dsimp only at hSw); go_simp; first | done | with_reducible rfl)
          try simp only [Act.put, List.getElem_toArray, List.getElem_cons_zero, List.getElem_cons_succ, List.setIfInBounds_toArray, List.set_cons_zero, List.set_cons_succ]
          refine wpAnyH_take (i := 9) (v := ?_) rfl (by kernel_rfl) (by kernel_rfl) (by kernel_rfl) (fun _ _ _ h => h) (Or.inl ⟨by rfl, ?_⟩) (by assumption) ?_
          rotate_left
          · (intro w hSw; (try dsimp only at hSw); go_simp; first | done | with_reducible rfl)
          try simp only [Act.put, List.getElem_toArray, List.getElem_cons_zero, List.getElem_cons_succ, List.setIfInBounds_toArray, List.set_cons_zero, List.set_cons_succ]
          refine wpAnyH_take (i := 10) (v := ?_) rfl (by kernel_rfl) (by kernel_rfl) (by kernel_rfl) (fun _ _ _ h => h) (Or.inl ⟨by rfl, ?_⟩) (by assumption) ?_
          rotate_left
          · (intro w hSw; (try dsimp only at hSw); go_simp; first | done | with_reducible rfl)
          try simp only [Act.put, List.getElem_toArray, List.getElem_cons_zero, List.getElem_cons_succ, List.setIfInBounds_toArray, List.set_cons_zero, List.set_cons_succ]
          refine wpAnyH_take (i := 11) (v := ?_) rfl (by kernel_rfl) (by kernel_rfl) (by kernel_rfl) (fun _ _ _ h => h) (Or.inl ⟨by rfl, ?_⟩) (by assumption) ?_
          rotate_left
          · (intro w hSw; (try dsimp only at hSw); go_simp; first | done | with_reducible rfl)
          try simp only [Act.put, List.getElem_toArray, List.getElem_cons_zero, List.getElem_cons_succ, List.setIfInBounds_toArray, List.set_cons_zero, List.set_cons_succ]
          refine wpAnyH_done (by kernel_rfl) ?_ _
          go_wp2_with fail
          refine wp_region_held_drew (S := (fun X : World => X.cell? ⟨wr.heap.size, 0, none⟩ = some (.int .u8 x.kd) ∧ X.cell? ⟨wr.heap.size, 1, none⟩ = some (.int .u8 x.op) ∧ X.cell? ⟨wr.heap.size, 2, none⟩ = some (.int .i64 x.oa) ∧ X.cell? ⟨wr.heap.size, 3, none⟩ = some (.int .i64 x.ob) ∧ X.cell? ⟨wr.heap.size, 4, none⟩ = some (.int .i64 x.fd) ∧ X.cell? ⟨wr.heap.size, 5, none⟩ = some (.int .i64 x.n) ∧ X.cell? ⟨wr.heap.size, 6, none⟩ = some (.int .u64 x.m) ∧ X.cell? ⟨wr.heap.size, 7, none⟩ = some (.int .u64 x.w) ∧ X.cell? ⟨wr.heap.size, 8, none⟩ = some (.int .i64 x.a) ∧ X.cell? ⟨wr.heap.size, 9, none⟩ = some (.int .i64 x.b) ∧ X.cell? ⟨wr.heap.size, 10, none⟩ = some (.int .i64 x.to) ∧ X.cell? ⟨wr.heap.size, 11, none⟩ = some (.string (bs gl)) ∧ X.cell? ⟨wr.heap.size, 12, none⟩ = some (.int .i64 (ln : Nat)))) (by kernel_rfl) ?_ (fun hHeld => ?_)
          · (try dsimp only); refine ⟨?_, ?_, ?_, ?_, ?_, ?_, ?_, ?_, ?_, ?_, ?_, ?_, ?_⟩ <;> first | assumption | (simp [go_sem]; done) | exact (World.cell?_alloc_lt _ _ ⟨_, _, _⟩ (by first | omega | (simp; omega) | simp)).trans (by assumption)
          refine wpAnyH_take (i := 0) (v := ?_) rfl (by kernel_rfl) (by kernel_rfl) (by kernel_rfl) (fun _ _ _ h => h) (Or.inl ⟨by rfl, ?_⟩) (by assumption) ?_
          rotate_left
          · (intro w hSw; (try dsimp only at hSw); go_simp; first | done | with_reducible rfl)
          try simp only [Act.put, List.getElem_toArray, List.getElem_cons_zero, List.getElem_cons_succ, List.setIfInBounds_toArray, List.set_cons_zero, List.set_cons_succ]
          refine wpAnyH_take (i := 1) (v := ?_) rfl (by kernel_rfl) (by kernel_rfl) (by kernel_rfl) (fun _ _ _ h => h) (Or.inl ⟨by rfl, ?_⟩) (by assumption) ?_
          rotate_left
          · (intro w hSw; (try dsimp only at hSw); go_simp; first | done | with_reducible rfl)
          try simp only [Act.put, List.getElem_toArray, List.getElem_cons_zero, List.getElem_cons_succ, List.setIfInBounds_toArray, List.set_cons_zero, List.set_cons_succ]
          refine wpAnyH_take (i := 2) (v := ?_) rfl (by kernel_rfl) (by kernel_rfl) (by kernel_rfl) (fun _ _ _ h => h) (Or.inl ⟨by rfl, ?_⟩) (by assumption) ?_
          rotate_left
          · (intro w hSw; (try dsimp only at hSw); go_simp; first | done | with_reducible rfl)
          try simp only [Act.put, List.getElem_toArray, List.getElem_cons_zero, List.getElem_cons_succ, List.setIfInBounds_toArray, List.set_cons_zero, List.set_cons_succ]
          refine wpAnyH_take (i := 3) (v := ?_) rfl (by kernel_rfl) (by kernel_rfl) (by kernel_rfl) (fun _ _ _ h => h) (Or.inl ⟨by rfl, ?_⟩) (by assumption) ?_
          rotate_left
          · (intro w hSw; (try dsimp only at hSw); go_simp; first | done | with_reducible rfl)
          try simp only [Act.put, List.getElem_toArray, List.getElem_cons_zero, List.getElem_cons_succ, List.setIfInBounds_toArray, List.set_cons_zero, List.set_cons_succ]
          refine wpAnyH_take (i := 4) (v := ?_) rfl (by kernel_rfl) (by kernel_rfl) (by kernel_rfl) (fun _ _ _ h => h) (Or.inl ⟨by rfl, ?_⟩) (by assumption) ?_
          rotate_left
          · (intro w hSw; (try dsimp only at hSw); go_simp; first | done | with_reducible rfl)
          try simp only [Act.put, List.getElem_toArray, List.getElem_cons_zero, List.getElem_cons_succ, List.setIfInBounds_toArray, List.set_cons_zero, List.set_cons_succ]
          refine wpAnyH_done (by kernel_rfl) ?_ _
          go_wp2
          go_ret3
          exact progR_no HP2.out.symm (by repeat (first | exact Below.refl _ _ | assumption | (refine below_drewN ?_ _) | (refine Below.drew ?_) | (refine Below.alloc ?_ (by first | omega | (simp; omega) | simp) _) | (refine Below.setCell ?_ (by first | omega | (simp; omega) | simp) _) | (refine below_trans ?_ (by assumption) (by first | omega | (simp; omega) | simp)))) _ rfl
        | some p =>
          rw [hq] at hp hlk
          simp only [Option.getD_some, Option.isSome_some] at hp hlk
          have HP2 : Hid (progL lb (cs.drop (k + 1)) (acc ++ [putO 9 (p : Int) x]) = RT) := Lib.hid hp
          clear hp HP1 hgl hq
          go_wp2_with fail
          refine wp_region_held_drew (S := (fun X : World => X.cell? ⟨wr.heap.size, 0, none⟩ = some (.int .u8 x.kd) ∧ X.cell? ⟨wr.heap.size, 1, none⟩ = some (.int .u8 x.op) ∧ X.cell? ⟨wr.heap.size, 2, none⟩ = some (.int .i64 x.oa) ∧ X.cell? ⟨wr.heap.size, 3, none⟩ = some (.int .i64 x.ob) ∧ X.cell? ⟨wr.heap.size, 4, none⟩ = some (.int .i64 x.fd) ∧ X.cell? ⟨wr.heap.size, 5, none⟩ = some (.int .i64 x.n) ∧ X.cell? ⟨wr.heap.size, 6, none⟩ = some (.int .u64 x.m) ∧ X.cell? ⟨wr.heap.size, 7, none⟩ = some (.int .u64 x.w) ∧ X.cell? ⟨wr.heap.size, 8, none⟩ = some (.int .i64 x.a) ∧ X.cell? ⟨wr.heap.size, 9, none⟩ = some (.int .i64 x.b) ∧ X.cell? ⟨wr.heap.size, 10, none⟩ = some (.int .i64 x.to) ∧ X.cell? ⟨wr.heap.size, 11, none⟩ = some (.string (bs gl)) ∧ X.cell? ⟨wr.heap.size, 12, none⟩ = some (.int .i64 (ln : Nat)) ∧ X.cell? ⟨g, 0, none⟩ = some (.map (some M)))) (by kernel_rfl) ?_ (fun hHeld => ?_)
          · (try dsimp only); refine ⟨?_, ?_, ?_, ?_, ?_, ?_, ?_, ?_, ?_, ?_, ?_, ?_, ?_, ?_⟩ <;> first | assumption | (simp [go_sem]; done) | exact (World.cell?_alloc_lt _ _ ⟨_, _, _⟩ (by first | omega | (simp; omega) | simp)).trans (by assumption)
          refine wpAnyH_take (i := 0) (v := ?_) rfl (by kernel_rfl) (by kernel_rfl) (by kernel_rfl) (fun _ _ _ h => h) (Or.inl ⟨by rfl, ?_⟩) (by assumption) ?_
          rotate_left
          · (intro w hSw; (try dsimp only at hSw); go_simp; first | done | with_reducible rfl)
          try simp only [Act.put, List.getElem_toArray, List.getElem_cons_zero, List.getElem_cons_succ, List.setIfInBounds_toArray, List.set_cons_zero, List.set_cons_succ]
          refine wpAnyH_take (i := 1) (v := ?_) rfl (by kernel_rfl) (by kernel_rfl) (by kernel_rfl) (fun _ _ _ h => h) (Or.inl ⟨by rfl, ?_⟩) (by assumption) ?_
          rotate_left
          · (intro w hSw; (try dsimp only at hSw); go_simp; first | done | with_reducible rfl)
          try simp only [Act.put, List.getElem_toArray, List.getElem_cons_zero, List.getElem_cons_succ, List.setIfInBounds_toArray, List.set_cons_zero, List.set_cons_succ]
          refine wpAnyH_take (i := 2) (v := ?_) rfl (by kernel_rfl) (by kernel_rfl) (by kernel_rfl) (fun _ _ _ h => h) (Or.inl ⟨by rfl, ?_⟩) (by assumption) ?_
          rotate_left
          · (intro w hSw; (try dsimp only at hSw); go_simp; first | done | with_reducible rfl)
          try simp only [Act.put, List.getElem_toArray, List.getElem_cons_zero, List.getElem_cons_succ, List.setIfInBounds_toArray, List.set_cons_zero, List.set_cons_succ]
          refine wpAnyH_take (i := 3) (v := ?_) rfl (by kernel_rfl) (by kernel_rfl) (by kernel_rfl) (fun _ _ _ h => h) (Or.inl ⟨by rfl, ?_⟩) (by assumption) ?_
          rotate_left
          · (intro w hSw; (try dsimp only at hSw); go_simp; first | done | with_reducible rfl)
          try simp only [Act.put, List.getElem_toArray, List.getElem_cons_zero, List.getElem_cons_succ, List.setIfInBounds_toArray, List.set_cons_zero, List.set_cons_succ]
          refine wpAnyH_take (i := 4) (v := ?_) rfl (by kernel_rfl) (by kernel_rfl) (by kernel_rfl) (fun _ _ _ h => h) (Or.inl ⟨by rfl, ?_⟩) (by assumption) ?_
          rotate_left
          · (intro w hSw; (try dsimp only at hSw); go_simp; first | done | with_reducible rfl)
          try simp only [Act.put, List.getElem_toArray, List.getElem_cons_zero, List.getElem_cons_succ, List.setIfInBounds_toArray, List.set_cons_zero, List.set_cons_succ]
          refine wpAnyH_take (i := 5) (v := ?_) rfl (by kernel_rfl) (by kernel_rfl) (by kernel_rfl) (fun _ _ _ h => h) (Or.inl ⟨by rfl, ?_⟩) (by assumption) ?_
          rotate_left
          · (intro w hSw; (try dsimp only at hSw); go_simp; first | done | with_reducible rfl)
          try simp only [Act.put, List.getElem_toArray, List.getElem_cons_zero, List.getElem_cons_succ, List.setIfInBounds_toArray, List.set_cons_zero, List.set_cons_succ]
          refine wpAnyH_ready (rs := [6]) (by kernel_rfl) (by simp) ?_
          refine AllReadyH.cons rfl (fun K hK => ?_) AllReadyH.nil
          try simp only [List.getElem_toArray, List.getElem_cons_zero, List.getElem_cons_succ]
          go_simp
          refine hK.out _ _ ?_ (fun hHeld => ?_)
          · (try dsimp only); refine ⟨?_, ?_, ?_, ?_, ?_, ?_, ?_, ?_, ?_, ?_, ?_, ?_, ?_, ?_⟩ <;> first | assumption | (simp [go_sem]; done) | exact (World.cell?_alloc_lt _ _ ⟨_, _, _⟩ (by first | omega | (simp; omega) | simp)).trans (by assumption)
          clear hK K
          try simp only [Act.put, List.getElem_toArray, List.getElem_cons_zero, List.getElem_cons_succ, List.setIfInBounds_toArray, List.set_cons_zero, List.set_cons_succ]
          refine wpAnyH_take (i := 7) (v := ?_) rfl (by kernel_rfl) (by kernel_rfl) (by kernel_rfl) (fun _ _ _ h => h) (Or.inl ⟨by rfl, ?_⟩) (by assumption) ?_
          rotate_left
          · (intro w hSw; (try dsimp only at hSw); go_simp; first | done | with_reducible rfl)
          try simp only [Act.put, List.getElem_toArray, List.getElem_cons_zero, List.getElem_cons_succ, List.setIfInBounds_toArray, List.set_cons_zero, List.set_cons_succ]
          refine wpAnyH_take (i := 8) (v := ?_) rfl (by kernel_rfl) (by kernel_rfl) (by kernel_rfl) (fun _ _ _ h => h) (Or.inl ⟨by rfl, ?_⟩) (by assumption) ?_
          rotate_left
          · (intro w hSw; (try dsimp only at hSw); go_simp; first | done | with_reducible rfl)
          try simp only [Act.put, List.getElem_toArray, List.getElem_cons_zero, List.getElem_cons_succ, List.setIfInBounds_toArray, List.set_cons_zero, List.set_cons_succ]
          refine wpAnyH_take (i := 9) (v := ?_) rfl (by kernel_rfl) (by kernel_rfl) (by kernel_rfl) (fun _ _ _ h => h) (Or.inl ⟨by rfl, ?_⟩) (by assumption) ?_
          rotate_left
          · (intro w hSw; (try dsimp only at hSw); go_simp; first | done | with_reducible rfl)
          try simp only [Act.put, List.getElem_toArray, List.getElem_cons_zero, List.getElem_cons_succ, List.setIfInBounds_toArray, List.set_cons_zero, List.set_cons_succ]
          refine wpAnyH_take (i := 10) (v := ?_) rfl (by kernel_rfl) (by kernel_rfl) (by kernel_rfl) (fun _ _ _ h => h) (Or.inl ⟨by rfl, ?_⟩) (by assumption) ?_
          rotate_left
          · (intro w hSw; (try dsimp only at hSw); go_simp; first | done | with_reducible rfl)
          try simp only [Act.put, List.getElem_toArray, List.getElem_cons_zero, List.getElem_cons_succ, List.setIfInBounds_toArray, List.set_cons_zero, List.set_cons_succ]
          refine wpAnyH_take (i := 11) (v := ?_) rfl (by kernel_rfl) (by kernel_rfl) (by kernel_rfl) (fun _ _ _ h => h) (Or.inl ⟨by rfl, ?_⟩) (by assumption) ?_
          rotate_left
          · (intro w hSw; (try dsimp only at hSw); go_simp; first | done | with_reducible rfl)
          try simp only [Act.put, List.getElem_toArray, List.getElem_cons_zero, List.getElem_cons_succ, List.setIfInBounds_toArray, List.set_cons_zero, List.set_cons_succ]
          refine wpAnyH_done (by kernel_rfl) ?_ _
          go_wp2_with (at_builtin; refine wpList_appendI ?_ (.tmp 39) (.tmp 42) ?_ w.heap.size A cap k (flatI acc) ?_ (owns_laterI OW.out (show Below wr.heap.size wr _ from (by repeat (first | exact Below.refl _ _ | assumption | (refine below_drewN ?_ _) | (refine Below.drew ?_) | (refine Below.alloc ?_ (by first | omega | (simp; omega) | simp) _) | (refine Below.setCell ?_ (by first | omega | (simp; omega) | simp) _) | (refine below_trans ?_ (by assumption) (by first | omega | (simp; omega) | simp)))))) (some ⟨wr.heap.size + 1, 0, none⟩) 1 1 (flatI [(putO 9 (p : Int) x)]) ?_ rfl (fun _ => ⟨wr.heap.size + 1, 0, rfl, fun j u hj => fl_liesG ((wr.alloc (.cells #[.int .u8 x.kd, .int .u8 x.op, .int .i64 x.oa, .int .i64 x.ob, .int .i64 x.fd, .int .i64 x.n, .int .u64 x.m, .int .u64 x.w, .int .i64 x.a, .int .i64 x.b, .int .i64 (p : Nat), .string (bs gl), .int .i64 (ln : Nat)] 74)).drew) (wr.heap.size + 1) (by simp [go_sem]) (flatI [(putO 9 (p : Int) x)]) 37 j u hj⟩) (flatI_one _) (by omega) (by simp; omega) ?_; rfl; rfl; rfl; rfl; intro A7 cap7 w7 hown7 hg7 hb_w7 hat7; have hs7 := hb_w7.size)
          rw [← flatI_append] at hown7
          have HO7 := Lib.hid hown7
          have b7 : Below w.heap.size w w7 := (by repeat (first | exact Below.refl _ _ | assumption | (refine below_drewN ?_ _) | (refine Below.drew ?_) | (refine Below.alloc ?_ (by first | omega | (simp; omega) | simp) _) | (refine Below.setCell ?_ (by first | omega | (simp; omega) | simp) _) | (refine below_trans ?_ (by assumption) (by first | omega | (simp; omega) | simp))))
          clear hown7
          go_roundw
          case rel => exact ⟨k + 1, A7, cap7, acc ++ [(putO 9 (p : Int) x)], by go_num, by omega, Lib.hid (by rw [List.length_append, hal.out]; rfl), rfl, HO7, HP2, b7⟩
          case measure => simp [intOf]; omega
    · obtain rfl : k = cs.length := by omega
      have hp := HP.out
      rw [HEN.out] at hp
      have HP2 := Lib.hid hp
      clear hp HP
      go_wp2
      go_ret3
      rw [← HP2.out]
      exact ⟨A, cap, by show _ = Ending.returned (.tuple #[.slice A acc.length cap, .int .i64 ((0 : Nat) : Int), .int .i64 0]); rw [hal.out]; rfl, by show OwnsI _ _ (.slice A acc.length cap) acc; unfold OwnsI; rw [hal.out]; exact OW.out, (by repeat (first | exact Below.refl _ _ | assumption | (refine below_drewN ?_ _) | (refine Below.drew ?_) | (refine Below.alloc ?_ (by first | omega | (simp; omega) | simp) _) | (refine Below.setCell ?_ (by first | omega | (simp; omega) | simp) _) | (refine below_trans ?_ (by assumption) (by first | omega | (simp; omega) | simp))))⟩
end
end Go.Proofs.YtggaijdbaplfiaaGreatDoor
