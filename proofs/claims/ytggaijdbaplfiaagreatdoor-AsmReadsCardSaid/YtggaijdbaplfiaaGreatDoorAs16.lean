/- Contracts of package asm: Print, Line. -/
import Derived.Test.YtggaijdbaplfiaaGreatDoorAs15
namespace Go.Proofs.YtggaijdbaplfiaaGreatDoor
open Go.RowKit
set_option linter.unusedVariables false
set_option linter.unusedSimpArgs false
def PrintR (w : World) (l : List In) (r : Ending) (w' : World) : Prop := ((OkP l ∧ r = .returned (.tuple #[.string (bs (printP l)), .int .i64 0])) ∨ (¬ OkP l ∧ r = .returned (.tuple #[.string (bs []), .int .i64 2]))) ∧ Below w.heap.size w w'
section
variable {w : World}
set_option maxRecDepth 100000 in
set_option maxHeartbeats 4000000 in
theorem print_any {A : Option Addr} {l : List In} (cap : Nat) (hr : PRow w w.heap.size A l) (hl : l.length ≤ 17592186044416) (hx : InL l) (hL : Lw w) :
    Calls Tryz.prog 12 #[.slice A l.length cap] w fun e w' => PrintR w l e w' := by
  unfold PrintR
  by_cases hok : OkP l
  · have HC := Lib.hid fun (w : World) hr hL => check_any (w := w) (A := A) (l := l) cap hr hl hx hL 0 (.inl ⟨hok, rfl⟩)
    have HT := Lib.hid fun (w : World) hr hL => text_any (w := w) (A := A) (l := l) cap hr hok hx hL
    have HOK := Lib.hid hok
    clear hok hx
    go_enter Tryz.func12, Tryz.ntmps12
    go_wp2_with fail
    go_at_call 18
    refine (HC.out _ (hr.later (by repeat (first | exact Below.refl _ _ | assumption | (refine below_drewN ?_ _) | (refine Below.drew ?_) | (refine Below.alloc ?_ (by first | omega | (simp; omega) | simp) _) | (refine Below.setCell ?_ (by first | omega | (simp; omega) | simp) _) | (refine below_trans ?_ (by assumption) (by first | omega | (simp; omega) | simp))))) hL).mono ?_
    rintro e w1 ⟨rfl, hb_w1⟩
    obtain ⟨hc_w1, hf_w1⟩ := bcell hb_w1; have hs_w1 := hb_w1.size; (try simp only [World.size_alloc, World.size_setCell, World.size_drew, World.heap_drewN] at hs_w1)
    go_wp2_with fail
    go_at_call 27
    refine (HT.out _ (hr.later (by repeat (first | exact Below.refl _ _ | assumption | (refine below_drewN ?_ _) | (refine Below.drew ?_) | (refine Below.alloc ?_ (by first | omega | (simp; omega) | simp) _) | (refine Below.setCell ?_ (by first | omega | (simp; omega) | simp) _) | (refine below_trans ?_ (by assumption) (by first | omega | (simp; omega) | simp))))) (hL.later (by repeat (first | exact Below.refl _ _ | assumption | (refine below_drewN ?_ _) | (refine Below.drew ?_) | (refine Below.alloc ?_ (by first | omega | (simp; omega) | simp) _) | (refine Below.setCell ?_ (by first | omega | (simp; omega) | simp) _) | (refine below_trans ?_ (by assumption) (by first | omega | (simp; omega) | simp)))))).mono ?_
    rintro e w2 ⟨rfl, hb_w2⟩
    obtain ⟨hc_w2, hf_w2⟩ := bcell hb_w2; have hs_w2 := hb_w2.size; (try simp only [World.size_alloc, World.size_setCell, World.size_drew, World.heap_drewN] at hs_w2)
    go_wp2
    go_ret2
    exact ⟨.inl ⟨HOK.out, rfl⟩, (by repeat (first | exact Below.refl _ _ | assumption | (refine below_drewN ?_ _) | (refine Below.drew ?_) | (refine Below.alloc ?_ (by first | omega | (simp; omega) | simp) _) | (refine Below.setCell ?_ (by first | omega | (simp; omega) | simp) _) | (refine below_trans ?_ (by assumption) (by first | omega | (simp; omega) | simp))))⟩
  · have HC := Lib.hid fun (w : World) hr hL => check_any (w := w) (A := A) (l := l) cap hr hl hx hL 2 (.inr ⟨hok, rfl⟩)
    have HOK := Lib.hid hok
    clear hok hx
    go_enter Tryz.func12, Tryz.ntmps12
    go_wp2_with fail
    go_at_call 18
    refine (HC.out _ (hr.later (by repeat (first | exact Below.refl _ _ | assumption | (refine below_drewN ?_ _) | (refine Below.drew ?_) | (refine Below.alloc ?_ (by first | omega | (simp; omega) | simp) _) | (refine Below.setCell ?_ (by first | omega | (simp; omega) | simp) _) | (refine below_trans ?_ (by assumption) (by first | omega | (simp; omega) | simp))))) hL).mono ?_
    rintro e w1 ⟨rfl, hb_w1⟩
    obtain ⟨hc_w1, hf_w1⟩ := bcell hb_w1; have hs_w1 := hb_w1.size; (try simp only [World.size_alloc, World.size_setCell, World.size_drew, World.heap_drewN] at hs_w1)
    go_wp2
    go_ret2
    exact ⟨.inr ⟨HOK.out, rfl⟩, (by repeat (first | exact Below.refl _ _ | assumption | (refine below_drewN ?_ _) | (refine Below.drew ?_) | (refine Below.alloc ?_ (by first | omega | (simp; omega) | simp) _) | (refine Below.setCell ?_ (by first | omega | (simp; omega) | simp) _) | (refine below_trans ?_ (by assumption) (by first | omega | (simp; omega) | simp))))⟩
theorem to_in {x : In} {c : Int} (h : OkI c x) (hc : 0 ≤ c) : 0 ≤ x.to ∧ x.to ≤ c := by
  obtain ⟨f, hf, hall, hm, _⟩ := h
  by_cases h9 : 9 ∈ f.os
  · exact hall 9 h9
  · have hz : ∀ (os : List Nat) (z : In), 9 ∉ os → (mkN x os z).to = z.to := by
      intro os
      induction os with
      | nil => intro z _; rfl
      | cons a os ih =>
        intro z hn
        rw [List.mem_cons, not_or] at hn
        have h1 := ih (putO a (getO a x) z) hn.2
        have h2 : (putO a (getO a x) z).to = z.to := by
          unfold putO
          split <;> first | rfl | (exact absurd rfl hn.1)
        have h3 : mkN x (a :: os) z = mkN x os (putO a (getO a x) z) := rfl
        rw [h3, h1, h2]
    have := hz f.os (bare f) h9
    have h0 : (mkI f x).to = 0 := this
    rw [hm] at h0
    omega
def lineX (x : In) : List UInt8 := lineI x (64 :: digs x.to.toNat)
set_option maxRecDepth 100000 in
set_option maxHeartbeats 8000000 in
theorem aline_ok (x : In) (hx : InR x) (hok : OkI 256 x) (hL : Lw w) :
    Calls Tryz.prog 14 #[.agg #[.int .u8 x.kd, .int .u8 x.op, .int .i64 x.oa, .int .i64 x.ob, .int .i64 x.fd, .int .i64 x.n, .int .u64 x.m, .int .u64 x.w, .int .i64 x.a, .int .i64 x.b, .int .i64 x.to]] w fun e w' => e = .returned (.tuple #[.string (bs (lineX x)), .int .i64 0]) ∧ Below w.heap.size w w' := by
  obtain ⟨t0, t1⟩ := to_in hok (by omega)
  have HV := Lib.hid fun (W : World) hL => valid_any (w := W) x 256 (by omega) (by omega) hx hL true (by simp [hok])
  have HI := Lib.hid fun (W : World) hL => itoa_nat (w := W) x.to t0 (by omega) hL
  have hdl := digF_len 20 x.to.toNat
  have hlb : (64 :: digs x.to.toNat).length ≤ 1000 := by rw [List.length_cons]; unfold digs; omega
  have HLN : Hid (∀ W, Lw W → Calls Tryz.prog 31 #[.agg #[.int .u8 x.kd, .int .u8 x.op, .int .i64 x.oa, .int .i64 x.ob, .int .i64 x.fd, .int .i64 x.n, .int .u64 x.m, .int .u64 x.w, .int .i64 x.a, .int .i64 x.b, .int .i64 x.to], .string (⟨#[64]⟩ ++ bs (digs x.to.toNat))] W fun e w' => e = .returned (.string (bs (lineX x))) ∧ Below W.heap.size W w') := Lib.hid fun W hL => by
    rw [show (⟨#[64]⟩ : ByteArray) = bs [64] from rfl, bs_append]
    exact line_any (w := W) x (64 :: digs x.to.toNat) hlb (hok.wok hx (by omega) (by omega)) hL
  have hds := digs_size x.to.toNat
  clear hok hdl hlb hx
  generalize bs (digs x.to.toNat) = D at *
  generalize bs (lineX x) = RX at *
  have z1 : ¬ (9223372036854775807 < 1 + D.size) := by omega
  clear hds
  go_enter Tryz.func14, Tryz.ntmps14
  go_wp2_with fail
  go_at_call 30
  refine (HV.out _ (hL.later (by repeat (first | exact Below.refl _ _ | assumption | (refine below_drewN ?_ _) | (refine Below.drew ?_) | (refine Below.alloc ?_ (by first | omega | (simp; omega) | simp) _) | (refine Below.setCell ?_ (by first | omega | (simp; omega) | simp) _) | (refine below_trans ?_ (by assumption) (by first | omega | (simp; omega) | simp)))))).mono ?_
  rintro e w1 ⟨rfl, hb_w1⟩
  obtain ⟨hc_w1, hf_w1⟩ := bcell hb_w1; have hz_w1_w_0 : w.heap.size < w1.heap.size := (by have hzz := hb_w1.size; (try simp only [World.size_alloc, World.size_setCell, World.size_drew, World.heap_drewN] at hzz); omega); have hs_w1 := hb_w1.size; (try simp only [World.size_alloc, World.size_setCell, World.size_drew, World.heap_drewN] at hs_w1)
  have b01 : Below w.heap.size w w1 := (by repeat (first | exact Below.refl _ _ | assumption | (refine below_drewN ?_ _) | (refine Below.drew ?_) | (refine Below.alloc ?_ (by first | omega | (simp; omega) | simp) _) | (refine Below.setCell ?_ (by first | omega | (simp; omega) | simp) _) | (refine below_trans ?_ (by assumption) (by first | omega | (simp; omega) | simp))))
  have hL1 := hL.later b01
  have hX1 : In11 w1 w.heap.size 0 x := (In11.new w x 37).later hb_w1
  have g1 := hX1.lt
  obtain ⟨c0, c1, c2, c3, c4, c5, c6, c7, c8, c9, c10⟩ := id hX1
  simp only [Nat.zero_add] at c0 c1 c2 c3 c4 c5 c6 c7 c8 c9 c10
  clear hc_w1 hf_w1 hX1
  go_wp2_with fail
  refine wp_region_held_drew (S := (fun X : World => X.cell? ⟨w.heap.size, 0, none⟩ = some (.int .u8 x.kd) ∧ X.cell? ⟨w.heap.size, 1, none⟩ = some (.int .u8 x.op) ∧ X.cell? ⟨w.heap.size, 2, none⟩ = some (.int .i64 x.oa) ∧ X.cell? ⟨w.heap.size, 3, none⟩ = some (.int .i64 x.ob) ∧ X.cell? ⟨w.heap.size, 4, none⟩ = some (.int .i64 x.fd) ∧ X.cell? ⟨w.heap.size, 5, none⟩ = some (.int .i64 x.n) ∧ X.cell? ⟨w.heap.size, 6, none⟩ = some (.int .u64 x.m) ∧ X.cell? ⟨w.heap.size, 7, none⟩ = some (.int .u64 x.w) ∧ X.cell? ⟨w.heap.size, 8, none⟩ = some (.int .i64 x.a) ∧ X.cell? ⟨w.heap.size, 9, none⟩ = some (.int .i64 x.b) ∧ X.cell? ⟨w.heap.size, 10, none⟩ = some (.int .i64 x.to))) (by kernel_rfl) ?_ (fun hHeld => ?_)
  · (try dsimp only); refine ⟨?_, ?_, ?_, ?_, ?_, ?_, ?_, ?_, ?_, ?_, ?_⟩ <;> first | assumption | (simp [go_sem]; done) | exact (World.cell?_alloc_lt _ _ ⟨_, _, _⟩ (by first | omega | (simp; omega) | simp)).trans (by assumption)
  refine wpAnyH_take (i := 0) (v := ?_) rfl (by kernel_rfl) (by kernel_rfl) (by kernel_rfl) (fun _ _ _ h => h) (Or.inl ⟨by rfl, ?_⟩) (by assumption) ?_
  rotate_left
  · (intro w hSw; (try dsimp only at hSw); go_simp; first | done | with_reducible rfl)
  try simp only [Act.put, List.getElem_toArray, List.getElem_cons_zero, List.getElem_cons_succ, List.setIfInBounds_toArray, List.set_cons_zero, List.set_cons_succ]
  refine wpAnyH_take (i := 1) (v := ?_) rfl (by kernel_rfl) (by kernel_rfl) (by kernel_rfl) (fun _ _ _ h => h) (Or.inl ⟨by rfl, ?_⟩) (by assumption) ?_
  rotate_left
  · (intro w hSw; (try dsimp only at hSw); go_simp; first | done | with_reducible rfl)
  try simp only [Act.put, List.getElem_toArray, List.getElem_cons_zero, List.getElem_cons_succ, List.setIfInBounds_toArray, List.set_cons_zero, List.set_cons_succ]
  refine wpAnyH_take (i := 2) (v := ?_) rfl (by kernel_rfl) (by kernel_rfl) (by kernel_rfl) (fun _ _ _ h => h) (Or.inl ⟨by rfl, ?_⟩) (by assumption) ?_
  rotate_left
  · (intro w hSw; (try dsimp only at hSw); go_simp; first | done | with_reducible rfl)
  try simp only [Act.put, List.getElem_toArray, List.getElem_cons_zero, List.getElem_cons_succ, List.setIfInBounds_toArray, List.set_cons_zero, List.set_cons_succ]
  refine wpAnyH_ready (rs := [3]) (by kernel_rfl) (by simp) ?_
  refine AllReadyH.cons rfl (fun K hK => ?_) AllReadyH.nil
  try simp only [List.getElem_toArray, List.getElem_cons_zero, List.getElem_cons_succ]
  go_simp
  go_at_call 32
  refine (HI.out _ (hL1.later (by repeat (first | exact Below.refl _ _ | assumption | (refine below_drewN ?_ _) | (refine Below.drew ?_) | (refine Below.alloc ?_ (by first | omega | (simp; omega) | simp) _) | (refine Below.setCell ?_ (by first | omega | (simp; omega) | simp) _) | (refine below_trans ?_ (by assumption) (by first | omega | (simp; omega) | simp)))))).mono ?_
  rintro e w2 ⟨rfl, hb_w2⟩
  have hs_w2 : w1.heap.size ≤ w2.heap.size := (by have := hb_w2.size; (try simp only [World.size_drew, World.heap_drewN, World.size_alloc] at this); omega)
  have b12 : Below w1.heap.size w1 w2 := below_trans (show Below w1.heap.size w1 w1.drew from Below.drew (Below.refl _ _)) hb_w2 (Nat.le_refl _)
  have mw20 : w2.cell? ⟨w.heap.size, 0, none⟩ = some (.int .u8 x.kd) := (hb_w2.cell (p := ⟨w.heap.size, 0, none⟩) (by first | omega | (simp; omega) | simp)).trans (by first | assumption | (simp [go_sem]; done) | exact (World.cell?_alloc_lt _ _ ⟨_, _, _⟩ (by first | omega | (simp; omega) | simp)).trans (by assumption))
  have mw21 : w2.cell? ⟨w.heap.size, 1, none⟩ = some (.int .u8 x.op) := (hb_w2.cell (p := ⟨w.heap.size, 1, none⟩) (by first | omega | (simp; omega) | simp)).trans (by first | assumption | (simp [go_sem]; done) | exact (World.cell?_alloc_lt _ _ ⟨_, _, _⟩ (by first | omega | (simp; omega) | simp)).trans (by assumption))
  have mw22 : w2.cell? ⟨w.heap.size, 2, none⟩ = some (.int .i64 x.oa) := (hb_w2.cell (p := ⟨w.heap.size, 2, none⟩) (by first | omega | (simp; omega) | simp)).trans (by first | assumption | (simp [go_sem]; done) | exact (World.cell?_alloc_lt _ _ ⟨_, _, _⟩ (by first | omega | (simp; omega) | simp)).trans (by assumption))
  have mw23 : w2.cell? ⟨w.heap.size, 3, none⟩ = some (.int .i64 x.ob) := (hb_w2.cell (p := ⟨w.heap.size, 3, none⟩) (by first | omega | (simp; omega) | simp)).trans (by first | assumption | (simp [go_sem]; done) | exact (World.cell?_alloc_lt _ _ ⟨_, _, _⟩ (by first | omega | (simp; omega) | simp)).trans (by assumption))
  have mw24 : w2.cell? ⟨w.heap.size, 4, none⟩ = some (.int .i64 x.fd) := (hb_w2.cell (p := ⟨w.heap.size, 4, none⟩) (by first | omega | (simp; omega) | simp)).trans (by first | assumption | (simp [go_sem]; done) | exact (World.cell?_alloc_lt _ _ ⟨_, _, _⟩ (by first | omega | (simp; omega) | simp)).trans (by assumption))
  have mw25 : w2.cell? ⟨w.heap.size, 5, none⟩ = some (.int .i64 x.n) := (hb_w2.cell (p := ⟨w.heap.size, 5, none⟩) (by first | omega | (simp; omega) | simp)).trans (by first | assumption | (simp [go_sem]; done) | exact (World.cell?_alloc_lt _ _ ⟨_, _, _⟩ (by first | omega | (simp; omega) | simp)).trans (by assumption))
  have mw26 : w2.cell? ⟨w.heap.size, 6, none⟩ = some (.int .u64 x.m) := (hb_w2.cell (p := ⟨w.heap.size, 6, none⟩) (by first | omega | (simp; omega) | simp)).trans (by first | assumption | (simp [go_sem]; done) | exact (World.cell?_alloc_lt _ _ ⟨_, _, _⟩ (by first | omega | (simp; omega) | simp)).trans (by assumption))
  have mw27 : w2.cell? ⟨w.heap.size, 7, none⟩ = some (.int .u64 x.w) := (hb_w2.cell (p := ⟨w.heap.size, 7, none⟩) (by first | omega | (simp; omega) | simp)).trans (by first | assumption | (simp [go_sem]; done) | exact (World.cell?_alloc_lt _ _ ⟨_, _, _⟩ (by first | omega | (simp; omega) | simp)).trans (by assumption))
  have mw28 : w2.cell? ⟨w.heap.size, 8, none⟩ = some (.int .i64 x.a) := (hb_w2.cell (p := ⟨w.heap.size, 8, none⟩) (by first | omega | (simp; omega) | simp)).trans (by first | assumption | (simp [go_sem]; done) | exact (World.cell?_alloc_lt _ _ ⟨_, _, _⟩ (by first | omega | (simp; omega) | simp)).trans (by assumption))
  have mw29 : w2.cell? ⟨w.heap.size, 9, none⟩ = some (.int .i64 x.b) := (hb_w2.cell (p := ⟨w.heap.size, 9, none⟩) (by first | omega | (simp; omega) | simp)).trans (by first | assumption | (simp [go_sem]; done) | exact (World.cell?_alloc_lt _ _ ⟨_, _, _⟩ (by first | omega | (simp; omega) | simp)).trans (by assumption))
  have mw210 : w2.cell? ⟨w.heap.size, 10, none⟩ = some (.int .i64 x.to) := (hb_w2.cell (p := ⟨w.heap.size, 10, none⟩) (by first | omega | (simp; omega) | simp)).trans (by first | assumption | (simp [go_sem]; done) | exact (World.cell?_alloc_lt _ _ ⟨_, _, _⟩ (by first | omega | (simp; omega) | simp)).trans (by assumption))
  try go_wp2_with fail
  refine hK.out _ _ ?_ (fun hHeld => ?_)
  · (try dsimp only); refine ⟨?_, ?_, ?_, ?_, ?_, ?_, ?_, ?_, ?_, ?_, ?_⟩ <;> first | assumption | (simp [go_sem]; done) | exact (World.cell?_alloc_lt _ _ ⟨_, _, _⟩ (by first | omega | (simp; omega) | simp)).trans (by assumption)
  clear hK K
  try simp only [Act.put, List.getElem_toArray, List.getElem_cons_zero, List.getElem_cons_succ, List.setIfInBounds_toArray, List.set_cons_zero, List.set_cons_succ]
  refine wpAnyH_take (i := 4) (v := ?_) rfl (by kernel_rfl) (by kernel_rfl) (by kernel_rfl) (fun _ _ _ h => h) (Or.inl ⟨by rfl, ?_⟩) (by assumption) ?_
  rotate_left
  · (intro w hSw; (try dsimp only at hSw); go_simp; first | done | with_reducible rfl)
  try simp only [Act.put, List.getElem_toArray, List.getElem_cons_zero, List.getElem_cons_succ, List.setIfInBounds_toArray, List.set_cons_zero, List.set_cons_succ]
  refine wpAnyH_ready (rs := [5]) (by kernel_rfl) (by simp) ?_
  refine AllReadyH.cons rfl (fun K hK => ?_) AllReadyH.nil
  try simp only [List.getElem_toArray, List.getElem_cons_zero, List.getElem_cons_succ]
  go_simp
  go_at_call 31
  refine (HLN.out _ (hL1.later (by repeat (first | exact Below.refl _ _ | assumption | (refine below_drewN ?_ _) | (refine Below.drew ?_) | (refine Below.alloc ?_ (by first | omega | (simp; omega) | simp) _) | (refine Below.setCell ?_ (by first | omega | (simp; omega) | simp) _) | (refine below_trans ?_ (by assumption) (by first | omega | (simp; omega) | simp)))))).mono ?_
  rintro e w3 ⟨rfl, hb_w3⟩
  have hs_w3 : w2.heap.size ≤ w3.heap.size := (by have := hb_w3.size; (try simp only [World.size_drew, World.heap_drewN, World.size_alloc] at this); omega)
  have mw30 : w3.cell? ⟨w.heap.size, 0, none⟩ = some (.int .u8 x.kd) := (hb_w3.cell (p := ⟨w.heap.size, 0, none⟩) (by first | omega | (simp; omega) | simp)).trans (by first | assumption | (simp [go_sem]; done) | exact (World.cell?_alloc_lt _ _ ⟨_, _, _⟩ (by first | omega | (simp; omega) | simp)).trans (by assumption))
  have mw31 : w3.cell? ⟨w.heap.size, 1, none⟩ = some (.int .u8 x.op) := (hb_w3.cell (p := ⟨w.heap.size, 1, none⟩) (by first | omega | (simp; omega) | simp)).trans (by first | assumption | (simp [go_sem]; done) | exact (World.cell?_alloc_lt _ _ ⟨_, _, _⟩ (by first | omega | (simp; omega) | simp)).trans (by assumption))
  have mw32 : w3.cell? ⟨w.heap.size, 2, none⟩ = some (.int .i64 x.oa) := (hb_w3.cell (p := ⟨w.heap.size, 2, none⟩) (by first | omega | (simp; omega) | simp)).trans (by first | assumption | (simp [go_sem]; done) | exact (World.cell?_alloc_lt _ _ ⟨_, _, _⟩ (by first | omega | (simp; omega) | simp)).trans (by assumption))
  have mw33 : w3.cell? ⟨w.heap.size, 3, none⟩ = some (.int .i64 x.ob) := (hb_w3.cell (p := ⟨w.heap.size, 3, none⟩) (by first | omega | (simp; omega) | simp)).trans (by first | assumption | (simp [go_sem]; done) | exact (World.cell?_alloc_lt _ _ ⟨_, _, _⟩ (by first | omega | (simp; omega) | simp)).trans (by assumption))
  have mw34 : w3.cell? ⟨w.heap.size, 4, none⟩ = some (.int .i64 x.fd) := (hb_w3.cell (p := ⟨w.heap.size, 4, none⟩) (by first | omega | (simp; omega) | simp)).trans (by first | assumption | (simp [go_sem]; done) | exact (World.cell?_alloc_lt _ _ ⟨_, _, _⟩ (by first | omega | (simp; omega) | simp)).trans (by assumption))
  have mw35 : w3.cell? ⟨w.heap.size, 5, none⟩ = some (.int .i64 x.n) := (hb_w3.cell (p := ⟨w.heap.size, 5, none⟩) (by first | omega | (simp; omega) | simp)).trans (by first | assumption | (simp [go_sem]; done) | exact (World.cell?_alloc_lt _ _ ⟨_, _, _⟩ (by first | omega | (simp; omega) | simp)).trans (by assumption))
  have mw36 : w3.cell? ⟨w.heap.size, 6, none⟩ = some (.int .u64 x.m) := (hb_w3.cell (p := ⟨w.heap.size, 6, none⟩) (by first | omega | (simp; omega) | simp)).trans (by first | assumption | (simp [go_sem]; done) | exact (World.cell?_alloc_lt _ _ ⟨_, _, _⟩ (by first | omega | (simp; omega) | simp)).trans (by assumption))
  have mw37 : w3.cell? ⟨w.heap.size, 7, none⟩ = some (.int .u64 x.w) := (hb_w3.cell (p := ⟨w.heap.size, 7, none⟩) (by first | omega | (simp; omega) | simp)).trans (by first | assumption | (simp [go_sem]; done) | exact (World.cell?_alloc_lt _ _ ⟨_, _, _⟩ (by first | omega | (simp; omega) | simp)).trans (by assumption))
  have mw38 : w3.cell? ⟨w.heap.size, 8, none⟩ = some (.int .i64 x.a) := (hb_w3.cell (p := ⟨w.heap.size, 8, none⟩) (by first | omega | (simp; omega) | simp)).trans (by first | assumption | (simp [go_sem]; done) | exact (World.cell?_alloc_lt _ _ ⟨_, _, _⟩ (by first | omega | (simp; omega) | simp)).trans (by assumption))
  have mw39 : w3.cell? ⟨w.heap.size, 9, none⟩ = some (.int .i64 x.b) := (hb_w3.cell (p := ⟨w.heap.size, 9, none⟩) (by first | omega | (simp; omega) | simp)).trans (by first | assumption | (simp [go_sem]; done) | exact (World.cell?_alloc_lt _ _ ⟨_, _, _⟩ (by first | omega | (simp; omega) | simp)).trans (by assumption))
  have mw310 : w3.cell? ⟨w.heap.size, 10, none⟩ = some (.int .i64 x.to) := (hb_w3.cell (p := ⟨w.heap.size, 10, none⟩) (by first | omega | (simp; omega) | simp)).trans (by first | assumption | (simp [go_sem]; done) | exact (World.cell?_alloc_lt _ _ ⟨_, _, _⟩ (by first | omega | (simp; omega) | simp)).trans (by assumption))
  try go_wp2_with fail
  refine hK.out _ _ ?_ (fun hHeld => ?_)
  · (try dsimp only); refine ⟨?_, ?_, ?_, ?_, ?_, ?_, ?_, ?_, ?_, ?_, ?_⟩ <;> first | assumption | (simp [go_sem]; done) | exact (World.cell?_alloc_lt _ _ ⟨_, _, _⟩ (by first | omega | (simp; omega) | simp)).trans (by assumption)
  clear hK K
  try simp only [Act.put, List.getElem_toArray, List.getElem_cons_zero, List.getElem_cons_succ, List.setIfInBounds_toArray, List.set_cons_zero, List.set_cons_succ]
  refine wpAnyH_take (i := 6) (v := ?_) rfl (by kernel_rfl) (by kernel_rfl) (by kernel_rfl) (fun _ _ _ h => h) (Or.inl ⟨by rfl, ?_⟩) (by assumption) ?_
  rotate_left
  · (intro w hSw; (try dsimp only at hSw); go_simp; first | done | with_reducible rfl)
  try simp only [Act.put, List.getElem_toArray, List.getElem_cons_zero, List.getElem_cons_succ, List.setIfInBounds_toArray, List.set_cons_zero, List.set_cons_succ]
  refine wpAnyH_take (i := 7) (v := ?_) rfl (by kernel_rfl) (by kernel_rfl) (by kernel_rfl) (fun _ _ _ h => h) (Or.inl ⟨by rfl, ?_⟩) (by assumption) ?_
  rotate_left
  · (intro w hSw; (try dsimp only at hSw); go_simp; first | done | with_reducible rfl)
  try simp only [Act.put, List.getElem_toArray, List.getElem_cons_zero, List.getElem_cons_succ, List.setIfInBounds_toArray, List.set_cons_zero, List.set_cons_succ]
  refine wpAnyH_done (by kernel_rfl) ?_ _
  go_wp2
  go_ret2
  exact ⟨rfl, (by repeat (first | exact Below.refl _ _ | assumption | (refine below_drewN ?_ _) | (refine Below.drew ?_) | (refine Below.alloc ?_ (by first | omega | (simp; omega) | simp) _) | (refine Below.setCell ?_ (by first | omega | (simp; omega) | simp) _) | (refine below_trans ?_ (by assumption) (by first | omega | (simp; omega) | simp))))⟩
set_option maxRecDepth 100000 in
set_option maxHeartbeats 4000000 in
theorem aline_bad (x : In) (hx : InR x) (hok : ¬ OkI 256 x) (hL : Lw w) :
    Calls Tryz.prog 14 #[.agg #[.int .u8 x.kd, .int .u8 x.op, .int .i64 x.oa, .int .i64 x.ob, .int .i64 x.fd, .int .i64 x.n, .int .u64 x.m, .int .u64 x.w, .int .i64 x.a, .int .i64 x.b, .int .i64 x.to]] w fun e w' => e = .returned (.tuple #[.string (bs []), .int .i64 2]) ∧ Below w.heap.size w w' := by
  have HV := Lib.hid fun (W : World) hL => valid_any (w := W) x 256 (by omega) (by omega) hx hL false (by simp [hok])
  clear hok hx
  go_enter Tryz.func14, Tryz.ntmps14
  go_wp2_with fail
  go_at_call 30
  refine (HV.out _ (hL.later (by repeat (first | exact Below.refl _ _ | assumption | (refine below_drewN ?_ _) | (refine Below.drew ?_) | (refine Below.alloc ?_ (by first | omega | (simp; omega) | simp) _) | (refine Below.setCell ?_ (by first | omega | (simp; omega) | simp) _) | (refine below_trans ?_ (by assumption) (by first | omega | (simp; omega) | simp)))))).mono ?_
  rintro e w1 ⟨rfl, hb_w1⟩
  obtain ⟨hc_w1, hf_w1⟩ := bcell hb_w1; have hz_w1_w_0 : w.heap.size < w1.heap.size := (by have hzz := hb_w1.size; (try simp only [World.size_alloc, World.size_setCell, World.size_drew, World.heap_drewN] at hzz); omega); have hs_w1 := hb_w1.size; (try simp only [World.size_alloc, World.size_setCell, World.size_drew, World.heap_drewN] at hs_w1)
  go_wp2
  go_ret2
  exact ⟨rfl, (by repeat (first | exact Below.refl _ _ | assumption | (refine below_drewN ?_ _) | (refine Below.drew ?_) | (refine Below.alloc ?_ (by first | omega | (simp; omega) | simp) _) | (refine Below.setCell ?_ (by first | omega | (simp; omega) | simp) _) | (refine below_trans ?_ (by assumption) (by first | omega | (simp; omega) | simp))))⟩
end
end Go.Proofs.YtggaijdbaplfiaaGreatDoor
