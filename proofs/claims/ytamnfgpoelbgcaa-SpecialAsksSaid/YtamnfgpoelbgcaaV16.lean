/- Contracts: Of and Take of specials, the code's; Of, the document's. -/
import Derived.Test.YtamnfgpoelbgcaaV15
namespace Go.Proofs.Ytamnfgpoelbgcaa
open Go.RowKit
set_option linter.unusedVariables false
set_option linter.unusedSimpArgs false

def ofP (x : Int) (s : Sc) : Bool := s.a == x
def takeP (x kd : Int) (s : Sc) : Bool := s.a == x && s.k == kd
def leftP (x kd : Int) (s : Sc) : Bool := !(s.a == x && s.k == kd)
section
variable {w : World}
set_option maxHeartbeats 1000000 in
theorem ctake2_any (s : Sc) (x y : Int) (B C F : Nat) (hB : w.cell? ⟨B, 0, none⟩ = some (.int .u64 x)) (hC : w.cell? ⟨C, 0, none⟩ = some (.int .u8 y)) (hF : w.cell? ⟨F, 0, none⟩ = some (.func (.func 29) #[] #[.pointer (some ⟨B, 0, none⟩), .pointer (some ⟨C, 0, none⟩)])) :
    Calls Try.prog 30 #[scv s, .pointer (some ⟨F, 0, none⟩)] w fun e w' => e = .returned (.bool (leftP x y s)) ∧ Below w.heap.size w w' := by
  have hb := World.block_lt_of_cell? w _ hB
  have hc := World.block_lt_of_cell? w _ hC
  have hf := World.block_lt_of_cell? w _ hF
  have HT := Lib.hid fun (w : World) hB hC => ctake1_any (w := w) s x y B C hB hC
  have HL : Hid (leftP x y s = !(s.a == x && s.k == y)) := Lib.hid rfl
  generalize (s.a == x && s.k == y) = r at HT HL
  obtain ⟨a, k, t⟩ := s
  unfold scv at *
  simp only at *
  have k0 : (w.alloc (.cells #[.int .u64 a, .int .u8 k, .int .u64 t] 41)).cell? ⟨B, 0, none⟩ = some (.int .u64 x) := (World.cell?_alloc_lt _ _ ⟨_, _, _⟩ hb).trans hB
  have k1 : (w.alloc (.cells #[.int .u64 a, .int .u8 k, .int .u64 t] 41)).cell? ⟨C, 0, none⟩ = some (.int .u8 y) := (World.cell?_alloc_lt _ _ ⟨_, _, _⟩ hc).trans hC
  have k2 : (w.alloc (.cells #[.int .u64 a, .int .u8 k, .int .u64 t] 41)).cell? ⟨F, 0, none⟩ = some (.func (.func 29) #[] #[.pointer (some ⟨B, 0, none⟩), .pointer (some ⟨C, 0, none⟩)]) := (World.cell?_alloc_lt _ _ ⟨_, _, _⟩ hf).trans hF
  go_enter Try.func30, Try.ntmps30
  go_wp2_with (refine (HT.out _ k0 k1).mono ?_; rintro e w1 ⟨rfl, hb_w1⟩)
  go_ret
  exact ⟨by rw [HL.out]; rfl, (by repeat (first | exact Below.refl _ _ | assumption | (refine below_drewN ?_ _) | (refine Below.drew ?_) | (refine Below.alloc ?_ (by first | omega | (simp; omega) | simp) _) | (refine Below.setCell ?_ (by first | omega | (simp; omega) | simp) _) | (refine below_trans ?_ (by assumption) (by first | omega | (simp; omega) | simp))))⟩
theorem says_of (l : List Sc) (x : Int) (B : Nat) (hB : w.cell? ⟨B, 0, none⟩ = some (.int .u64 x)) : SaysC 28 #[.pointer (some ⟨B, 0, none⟩)] l (ofP x) w :=
  fun W s hb _ => cof1_any s x B ((hb.cell (p := ⟨B, 0, none⟩) (World.block_lt_of_cell? w _ hB)).trans hB)
theorem says_take (l : List Sc) (x y : Int) (B C : Nat) (hB : w.cell? ⟨B, 0, none⟩ = some (.int .u64 x)) (hC : w.cell? ⟨C, 0, none⟩ = some (.int .u8 y)) : SaysC 29 #[.pointer (some ⟨B, 0, none⟩), .pointer (some ⟨C, 0, none⟩)] l (takeP x y) w :=
  fun W s hb _ => ctake1_any s x y B C ((hb.cell (p := ⟨B, 0, none⟩) (World.block_lt_of_cell? w _ hB)).trans hB) ((hb.cell (p := ⟨C, 0, none⟩) (World.block_lt_of_cell? w _ hC)).trans hC)
theorem says_left (l : List Sc) (x y : Int) (B C F : Nat) (hF : w.cell? ⟨F, 0, none⟩ = some (.func (.func 29) #[] #[.pointer (some ⟨B, 0, none⟩), .pointer (some ⟨C, 0, none⟩)])) (hB : w.cell? ⟨B, 0, none⟩ = some (.int .u64 x)) (hC : w.cell? ⟨C, 0, none⟩ = some (.int .u8 y)) : SaysC 30 #[.pointer (some ⟨F, 0, none⟩)] l (leftP x y) w :=
  fun W s hb _ => ctake2_any s x y B C F ((hb.cell (p := ⟨B, 0, none⟩) (World.block_lt_of_cell? w _ hB)).trans hB) ((hb.cell (p := ⟨C, 0, none⟩) (World.block_lt_of_cell? w _ hC)).trans hC) ((hb.cell (p := ⟨F, 0, none⟩) (World.block_lt_of_cell? w _ hF)).trans hF)
end
def OfE (l : List Sc) (p : Sc → Bool) (r : List Sc) (y : Int) : Prop := (OkC l ∧ r = l.filter p ∧ y = 0) ∨ (¬ OkC l ∧ r = [] ∧ y = 2)
theorem OfE.ex (l : List Sc) (p : Sc → Bool) : ∃ r y, OfE l p r y := by
  by_cases h : OkC l
  · exact ⟨_, _, .inl ⟨h, rfl, rfl⟩⟩
  · exact ⟨_, _, .inr ⟨h, rfl, rfl⟩⟩
section
variable {w : World} {A : Option Addr} {l : List Sc} (cap : Nat)
theorem cofL_any (hr : CRow w w.heap.size A l) (hcl : l.length ≤ cap) (hl : l.length ≤ 5864062014805) (x : Int) (r : List Sc) (y : Int) (hE : OfE l (ofP x) r y) :
    Calls Try.prog 12 #[.slice A l.length cap, .int .u64 x] w fun e w' => ∃ B cb, e = .returned (.tuple #[.slice B r.length cb, .int .i64 y]) ∧ OwnsC w' w.heap.size (.slice B r.length cb) r ∧ Below w.heap.size w w' := by
  rcases hE with ⟨hok, rfl, rfl⟩ | ⟨hok, rfl, rfl⟩
  · have HC := Lib.hid fun (w : World) hr => ccheck_any (w := w) (A := A) (l := l) cap hr hcl hl 0 (.inl ⟨hok, rfl⟩)
    have HT := Lib.hid fun (w : World) hr B hB => cthose_any (w := w) (A := A) (l := l) cap 28 #[.pointer (some ⟨B, 0, none⟩)] (ofP x) eg_of1 hr hl (says_of l x B hB)
    generalize l.filter (ofP x) = r at HT ⊢
    clear hok
    go_enter Try.func12, Try.ntmps12
    go_wp2_with fail
    go_at_call 20
    refine (HC.out _ (hr.later (by repeat (first | exact Below.refl _ _ | assumption | (refine below_drewN ?_ _) | (refine Below.drew ?_) | (refine Below.alloc ?_ (by first | omega | (simp; omega) | simp) _) | (refine Below.setCell ?_ (by first | omega | (simp; omega) | simp) _) | (refine below_trans ?_ (by assumption) (by first | omega | (simp; omega) | simp)))))).mono ?_
    rintro e w1 ⟨rfl, hb_w1⟩
    obtain ⟨hc_w1, hf_w1⟩ := bcell hb_w1; have hz_w1_w_0 : w.heap.size < w1.heap.size := (by have hzz := hb_w1.size; (try simp only [World.size_alloc, World.size_setCell, World.size_drew, World.heap_drewN] at hzz); omega); have hs_w1 := hb_w1.size; (try simp only [World.size_alloc, World.size_setCell, World.size_drew, World.heap_drewN] at hs_w1)
    go_wp2_with fail
    go_at_call 27
    refine (HT.out _ (hr.later (by repeat (first | exact Below.refl _ _ | assumption | (refine below_drewN ?_ _) | (refine Below.drew ?_) | (refine Below.alloc ?_ (by first | omega | (simp; omega) | simp) _) | (refine Below.setCell ?_ (by first | omega | (simp; omega) | simp) _) | (refine below_trans ?_ (by assumption) (by first | omega | (simp; omega) | simp))))) _ ((hc_w1 _ _ (by first | omega | (simp; omega) | simp)).trans (by simp [go_sem]))).mono ?_
    rintro e w2 ⟨B, cb, rfl, o2, hb_w2⟩
    go_wp2
    go_ret2
    exact ⟨B, cb, rfl, owns_monoC o2 (by first | omega | (simp; omega) | simp), (by repeat (first | exact Below.refl _ _ | assumption | (refine below_drewN ?_ _) | (refine Below.drew ?_) | (refine Below.alloc ?_ (by first | omega | (simp; omega) | simp) _) | (refine Below.setCell ?_ (by first | omega | (simp; omega) | simp) _) | (refine below_trans ?_ (by assumption) (by first | omega | (simp; omega) | simp))))⟩
  · have HC := Lib.hid fun (w : World) hr => ccheck_any (w := w) (A := A) (l := l) cap hr hcl hl 2 (.inr ⟨hok, rfl⟩)
    clear hok
    go_enter Try.func12, Try.ntmps12
    go_wp2_with fail
    go_at_call 20
    refine (HC.out _ (hr.later (by repeat (first | exact Below.refl _ _ | assumption | (refine below_drewN ?_ _) | (refine Below.drew ?_) | (refine Below.alloc ?_ (by first | omega | (simp; omega) | simp) _) | (refine Below.setCell ?_ (by first | omega | (simp; omega) | simp) _) | (refine below_trans ?_ (by assumption) (by first | omega | (simp; omega) | simp)))))).mono ?_
    rintro e w1 ⟨rfl, hb_w1⟩
    obtain ⟨hc_w1, hf_w1⟩ := bcell hb_w1; have hz_w1_w_0 : w.heap.size < w1.heap.size := (by have hzz := hb_w1.size; (try simp only [World.size_alloc, World.size_setCell, World.size_drew, World.heap_drewN] at hzz); omega); have hs_w1 := hb_w1.size; (try simp only [World.size_alloc, World.size_setCell, World.size_drew, World.heap_drewN] at hs_w1)
    go_wp2
    go_ret2
    exact ⟨none, 0, rfl, World.ownsRow_nil _ _ _ _, (by repeat (first | exact Below.refl _ _ | assumption | (refine below_drewN ?_ _) | (refine Below.drew ?_) | (refine Below.alloc ?_ (by first | omega | (simp; omega) | simp) _) | (refine Below.setCell ?_ (by first | omega | (simp; omega) | simp) _) | (refine below_trans ?_ (by assumption) (by first | omega | (simp; omega) | simp))))⟩
def TakeE (l : List Sc) (x kd : Int) (r t : List Sc) (y : Int) : Prop := (OkC l ∧ r = l.filter (leftP x kd) ∧ t = l.filter (takeP x kd) ∧ y = 0) ∨ (¬ OkC l ∧ r = [] ∧ t = [] ∧ y = 2)
theorem TakeE.ex (l : List Sc) (x kd : Int) : ∃ r t y, TakeE l x kd r t y := by
  by_cases h : OkC l
  · exact ⟨_, _, _, .inl ⟨h, rfl, rfl, rfl⟩⟩
  · exact ⟨_, _, _, .inr ⟨h, rfl, rfl, rfl⟩⟩
set_option maxHeartbeats 4000000 in
theorem ctakeL_any (hr : CRow w w.heap.size A l) (hcl : l.length ≤ cap) (hl : l.length ≤ 5864062014805) (x kd : Int) (r t : List Sc) (y : Int) (hE : TakeE l x kd r t y) :
    Calls Try.prog 14 #[.slice A l.length cap, .int .u64 x, .int .u8 kd] w fun e w' => ∃ B cb B2 cb2, e = .returned (.tuple #[.slice B r.length cb, .slice B2 t.length cb2, .int .i64 y]) ∧ OwnsC w' w.heap.size (.slice B r.length cb) r ∧ OwnsC w' w.heap.size (.slice B2 t.length cb2) t ∧ Below w.heap.size w w' := by
  rcases hE with ⟨hok, rfl, rfl, rfl⟩ | ⟨hok, rfl, rfl, rfl⟩
  · have HC := Lib.hid fun (w : World) hr => ccheck_any (w := w) (A := A) (l := l) cap hr hcl hl 0 (.inl ⟨hok, rfl⟩)
    have HTT := fun (W : World) hr hB hC => cthose_any (w := W) (A := A) (l := l) cap 29 #[.pointer (some ⟨w.heap.size, 0, none⟩), .pointer (some ⟨w.heap.size + 1, 0, none⟩)] (takeP x kd) eg_take1 hr hl (says_take l x kd _ _ hB hC)
    have HTL := fun (W : World) (F : Nat) hr hF hB hC => cthose_any (w := W) (A := A) (l := l) cap 30 #[.pointer (some ⟨F, 0, none⟩)] (leftP x kd) eg_take2 hr hl (says_left l x kd (w.heap.size) (w.heap.size + 1) F hF hB hC)
    generalize l.filter (leftP x kd) = r at HTL ⊢
    generalize l.filter (takeP x kd) = t at HTT ⊢
    have HTT := Lib.hid HTT
    have HTL := Lib.hid HTL
    clear hok
    go_enter Try.func14, Try.ntmps14
    go_wp2_with fail
    go_at_call 20
    refine (HC.out _ (hr.later (by repeat (first | exact Below.refl _ _ | assumption | (refine below_drewN ?_ _) | (refine Below.drew ?_) | (refine Below.alloc ?_ (by first | omega | (simp; omega) | simp) _) | (refine Below.setCell ?_ (by first | omega | (simp; omega) | simp) _) | (refine below_trans ?_ (by assumption) (by first | omega | (simp; omega) | simp)))))).mono ?_
    rintro e w1 ⟨rfl, hb_w1⟩
    obtain ⟨hc_w1, hf_w1⟩ := bcell hb_w1; have hz_w1_w_0 : w.heap.size < w1.heap.size := (by have hzz := hb_w1.size; (try simp only [World.size_alloc, World.size_setCell, World.size_drew, World.heap_drewN] at hzz); omega); have hz_w1_w_1 : w.heap.size + 1 < w1.heap.size := (by have hzz := hb_w1.size; (try simp only [World.size_alloc, World.size_setCell, World.size_drew, World.heap_drewN] at hzz); omega); have hs_w1 := hb_w1.size; (try simp only [World.size_alloc, World.size_setCell, World.size_drew, World.heap_drewN] at hs_w1)
    have v0 : w1.cell? ⟨w.heap.size, 0, none⟩ = some (.int .u64 x) := (hc_w1 _ _ (by first | omega | (simp; omega) | simp)).trans ((World.cell?_alloc_lt _ _ ⟨_, _, _⟩ (by first | omega | (simp; omega) | simp)).trans (by simp [go_sem]))
    have v1 : w1.cell? ⟨w.heap.size + 1, 0, none⟩ = some (.int .u8 kd) := (hc_w1 _ _ (by first | omega | (simp; omega) | simp)).trans (by simp [go_sem])
    have hst : (store ⟨w1.heap.size, 0, none⟩ (.func (.func 29) #[] #[.pointer (some ⟨w.heap.size, 0, none⟩), .pointer (some ⟨w.heap.size + 1, 0, none⟩)])).run Try.prog (w1.alloc (.cells #[.nilFunc] 52)) = .ok () ((w1.alloc (.cells #[.nilFunc] 52)).setCell ⟨w1.heap.size, 0, none⟩ (.func (.func 29) #[] #[.pointer (some ⟨w.heap.size, 0, none⟩), .pointer (some ⟨w.heap.size + 1, 0, none⟩)])) := by
      rw [run_store Try.prog _ _ _ _ rfl]
      simp [go_sem]
    have u0 := (World.cell?_alloc_lt w1 (.cells #[.func (.func 29) #[] #[.pointer (some ⟨w.heap.size, 0, none⟩), .pointer (some ⟨w.heap.size + 1, 0, none⟩)]] 52) ⟨w.heap.size, 0, none⟩ (by first | omega | (simp; omega) | simp)).trans v0
    have u1 := (World.cell?_alloc_lt w1 (.cells #[.func (.func 29) #[] #[.pointer (some ⟨w.heap.size, 0, none⟩), .pointer (some ⟨w.heap.size + 1, 0, none⟩)]] 52) ⟨w.heap.size + 1, 0, none⟩ (by first | omega | (simp; omega) | simp)).trans v1
    go_wp2_with fail
    refine wp_region_held_drew (S := (fun X : World => X.cell? ⟨w1.heap.size, 0, none⟩ = some (.func (.func 29) #[] #[.pointer (some ⟨w.heap.size, 0, none⟩), .pointer (some ⟨w.heap.size + 1, 0, none⟩)]) ∧ X.cell? ⟨w.heap.size, 0, none⟩ = some (.int .u64 x) ∧ X.cell? ⟨w.heap.size + 1, 0, none⟩ = some (.int .u8 kd))) (by kernel_rfl) ?_ (fun hHeld => ?_)
    · (try dsimp only); refine ⟨?_, ?_, ?_⟩ <;> first | assumption | (simp [go_sem]; done)
    refine wpAnyH_take (i := 0) (v := ?_) rfl (by kernel_rfl) (by kernel_rfl) (by kernel_rfl) (fun _ _ _ h => h) (Or.inl ⟨by rfl, ?_⟩) (by assumption) ?_
    rotate_left
    · (intro w hSw; (try dsimp only at hSw); go_simp; first | done | with_reducible rfl)
    try simp only [Act.put, List.getElem_toArray, List.getElem_cons_zero, List.getElem_cons_succ, List.setIfInBounds_toArray, List.set_cons_zero, List.set_cons_succ]
    refine wpAnyH_take (i := 1) (v := ?_) rfl (by kernel_rfl) (by kernel_rfl) (by kernel_rfl) (fun _ _ _ h => h) (Or.inl ⟨by rfl, ?_⟩) (by assumption) ?_
    rotate_left
    · (intro w hSw; (try dsimp only at hSw); go_simp; first | done | with_reducible rfl)
    try simp only [Act.put, List.getElem_toArray, List.getElem_cons_zero, List.getElem_cons_succ, List.setIfInBounds_toArray, List.set_cons_zero, List.set_cons_succ]
    refine wpAnyH_take (i := 3) (v := ?_) rfl (by kernel_rfl) (by kernel_rfl) (by kernel_rfl) (fun _ _ _ h => h) (Or.inl ⟨by rfl, ?_⟩) (by assumption) ?_
    rotate_left
    · (intro w hSw; (try dsimp only at hSw); go_simp; first | done | with_reducible rfl)
    try simp only [Act.put, List.getElem_toArray, List.getElem_cons_zero, List.getElem_cons_succ, List.setIfInBounds_toArray, List.set_cons_zero, List.set_cons_succ]
    refine wpAnyH_take (i := 4) (v := ?_) rfl (by kernel_rfl) (by kernel_rfl) (by kernel_rfl) (fun _ _ _ h => h) (Or.inl ⟨by rfl, ?_⟩) (by assumption) ?_
    rotate_left
    · (intro w hSw; (try dsimp only at hSw); go_simp; first | done | with_reducible rfl)
    try simp only [Act.put, List.getElem_toArray, List.getElem_cons_zero, List.getElem_cons_succ, List.setIfInBounds_toArray, List.set_cons_zero, List.set_cons_succ]
    refine wpAnyH_ready (rs := [2]) (by kernel_rfl) (by simp) ?_
    refine AllReadyH.cons rfl (fun K hK => ?_) AllReadyH.nil
    try simp only [List.getElem_toArray, List.getElem_cons_zero, List.getElem_cons_succ]
    go_simp
    go_at_call 27
    refine (HTL.out _ _ (hr.later (by repeat (first | exact Below.refl _ _ | assumption | (refine below_drewN ?_ _) | (refine Below.drew ?_) | (refine Below.alloc ?_ (by first | omega | (simp; omega) | simp) _) | (refine Below.setCell ?_ (by first | omega | (simp; omega) | simp) _) | (refine below_trans ?_ (by assumption) (by first | omega | (simp; omega) | simp))))) (by first | assumption | (simp [go_sem]; done)) (by first | assumption | (simp [go_sem]; done)) (by first | assumption | (simp [go_sem]; done))).mono ?_
    rintro e w3 ⟨BL, cL, rfl, oL, hb_w3⟩
    have hs_w3 := hb_w3.size
    (try simp only [World.size_drew, World.heap_drewN, World.size_alloc] at hs_w3)
    have mw30 : w3.cell? ⟨w1.heap.size, 0, none⟩ = some (.func (.func 29) #[] #[.pointer (some ⟨w.heap.size, 0, none⟩), .pointer (some ⟨w.heap.size + 1, 0, none⟩)]) := (hb_w3.cell (p := ⟨w1.heap.size, 0, none⟩) (by first | omega | (simp; omega) | simp)).trans (by first | assumption | (simp [go_sem]; done) | exact (World.cell?_alloc_lt _ _ ⟨_, _, _⟩ (by first | omega | (simp; omega) | simp)).trans (by assumption))
    have mw31 : w3.cell? ⟨w.heap.size, 0, none⟩ = some (.int .u64 x) := (hb_w3.cell (p := ⟨w.heap.size, 0, none⟩) (by first | omega | (simp; omega) | simp)).trans (by first | assumption | (simp [go_sem]; done) | exact (World.cell?_alloc_lt _ _ ⟨_, _, _⟩ (by first | omega | (simp; omega) | simp)).trans (by assumption))
    have mw32 : w3.cell? ⟨w.heap.size + 1, 0, none⟩ = some (.int .u8 kd) := (hb_w3.cell (p := ⟨w.heap.size + 1, 0, none⟩) (by first | omega | (simp; omega) | simp)).trans (by first | assumption | (simp [go_sem]; done) | exact (World.cell?_alloc_lt _ _ ⟨_, _, _⟩ (by first | omega | (simp; omega) | simp)).trans (by assumption))
    try go_wp2_with fail
    refine hK.out _ _ ?_ (fun hHeld => ?_)
    · (try dsimp only); refine ⟨?_, ?_, ?_⟩ <;> first | assumption | (simp [go_sem]; done)
    clear hK K
    try simp only [Act.put, List.getElem_toArray, List.getElem_cons_zero, List.getElem_cons_succ, List.setIfInBounds_toArray, List.set_cons_zero, List.set_cons_succ]
    refine wpAnyH_ready (rs := [5]) (by kernel_rfl) (by simp) ?_
    refine AllReadyH.cons rfl (fun K hK => ?_) AllReadyH.nil
    try simp only [List.getElem_toArray, List.getElem_cons_zero, List.getElem_cons_succ]
    go_simp
    go_at_call 27
    refine (HTT.out _ (hr.later (by repeat (first | exact Below.refl _ _ | assumption | (refine below_drewN ?_ _) | (refine Below.drew ?_) | (refine Below.alloc ?_ (by first | omega | (simp; omega) | simp) _) | (refine Below.setCell ?_ (by first | omega | (simp; omega) | simp) _) | (refine below_trans ?_ (by assumption) (by first | omega | (simp; omega) | simp))))) (by first | assumption | (simp [go_sem]; done)) (by first | assumption | (simp [go_sem]; done))).mono ?_
    rintro e w4 ⟨BT, cT, rfl, oT, hb_w4⟩
    have hs_w4 := hb_w4.size
    (try simp only [World.size_drew, World.heap_drewN, World.size_alloc] at hs_w4)
    have mw40 : w4.cell? ⟨w1.heap.size, 0, none⟩ = some (.func (.func 29) #[] #[.pointer (some ⟨w.heap.size, 0, none⟩), .pointer (some ⟨w.heap.size + 1, 0, none⟩)]) := (hb_w4.cell (p := ⟨w1.heap.size, 0, none⟩) (by first | omega | (simp; omega) | simp)).trans (by first | assumption | (simp [go_sem]; done) | exact (World.cell?_alloc_lt _ _ ⟨_, _, _⟩ (by first | omega | (simp; omega) | simp)).trans (by assumption))
    have mw41 : w4.cell? ⟨w.heap.size, 0, none⟩ = some (.int .u64 x) := (hb_w4.cell (p := ⟨w.heap.size, 0, none⟩) (by first | omega | (simp; omega) | simp)).trans (by first | assumption | (simp [go_sem]; done) | exact (World.cell?_alloc_lt _ _ ⟨_, _, _⟩ (by first | omega | (simp; omega) | simp)).trans (by assumption))
    have mw42 : w4.cell? ⟨w.heap.size + 1, 0, none⟩ = some (.int .u8 kd) := (hb_w4.cell (p := ⟨w.heap.size + 1, 0, none⟩) (by first | omega | (simp; omega) | simp)).trans (by first | assumption | (simp [go_sem]; done) | exact (World.cell?_alloc_lt _ _ ⟨_, _, _⟩ (by first | omega | (simp; omega) | simp)).trans (by assumption))
    try go_wp2_with fail
    refine hK.out _ _ ?_ (fun hHeld => ?_)
    · (try dsimp only); refine ⟨?_, ?_, ?_⟩ <;> first | assumption | (simp [go_sem]; done)
    clear hK K
    try simp only [Act.put, List.getElem_toArray, List.getElem_cons_zero, List.getElem_cons_succ, List.setIfInBounds_toArray, List.set_cons_zero, List.set_cons_succ]
    refine wpAnyH_take (i := 6) (v := ?_) rfl (by kernel_rfl) (by kernel_rfl) (by kernel_rfl) (fun _ _ _ h => h) (Or.inl ⟨by rfl, ?_⟩) (by assumption) ?_
    rotate_left
    · (intro w hSw; (try dsimp only at hSw); go_simp; first | done | with_reducible rfl)
    try simp only [Act.put, List.getElem_toArray, List.getElem_cons_zero, List.getElem_cons_succ, List.setIfInBounds_toArray, List.set_cons_zero, List.set_cons_succ]
    refine wpAnyH_take (i := 7) (v := ?_) rfl (by kernel_rfl) (by kernel_rfl) (by kernel_rfl) (fun _ _ _ h => h) (Or.inl ⟨by rfl, ?_⟩) (by assumption) ?_
    rotate_left
    · (intro w hSw; (try dsimp only at hSw); go_simp; first | done | with_reducible rfl)
    try simp only [Act.put, List.getElem_toArray, List.getElem_cons_zero, List.getElem_cons_succ, List.setIfInBounds_toArray, List.set_cons_zero, List.set_cons_succ]
    refine wpAnyH_take (i := 8) (v := ?_) rfl (by kernel_rfl) (by kernel_rfl) (by kernel_rfl) (fun _ _ _ h => h) (Or.inl ⟨by rfl, ?_⟩) (by assumption) ?_
    rotate_left
    · (intro w hSw; (try dsimp only at hSw); go_simp; first | done | with_reducible rfl)
    try simp only [Act.put, List.getElem_toArray, List.getElem_cons_zero, List.getElem_cons_succ, List.setIfInBounds_toArray, List.set_cons_zero, List.set_cons_succ]
    refine wpAnyH_done (by kernel_rfl) ?_ _
    go_wp2
    go_ret3
    exact ⟨BL, cL, BT, cT, rfl, owns_monoC (owns_laterC oL (by repeat (first | exact Below.refl _ _ | assumption | (refine below_drewN ?_ _) | (refine Below.drew ?_) | (refine Below.alloc ?_ (by first | omega | (simp; omega) | simp) _) | (refine Below.setCell ?_ (by first | omega | (simp; omega) | simp) _) | (refine below_trans ?_ (by assumption) (by first | omega | (simp; omega) | simp))))) (by first | omega | (simp; omega) | simp), owns_monoC (owns_laterC oT (by repeat (first | exact Below.refl _ _ | assumption | (refine below_drewN ?_ _) | (refine Below.drew ?_) | (refine Below.alloc ?_ (by first | omega | (simp; omega) | simp) _) | (refine Below.setCell ?_ (by first | omega | (simp; omega) | simp) _) | (refine below_trans ?_ (by assumption) (by first | omega | (simp; omega) | simp))))) (by first | omega | (simp; omega) | simp), (by repeat (first | exact Below.refl _ _ | assumption | (refine below_drewN ?_ _) | (refine Below.drew ?_) | (refine Below.alloc ?_ (by first | omega | (simp; omega) | simp) _) | (refine Below.setCell ?_ (by first | omega | (simp; omega) | simp) _) | (refine below_trans ?_ (by assumption) (by first | omega | (simp; omega) | simp))))⟩
  · have HC := Lib.hid fun (w : World) hr => ccheck_any (w := w) (A := A) (l := l) cap hr hcl hl 2 (.inr ⟨hok, rfl⟩)
    clear hok
    go_enter Try.func14, Try.ntmps14
    go_wp2_with fail
    go_at_call 20
    refine (HC.out _ (hr.later (by repeat (first | exact Below.refl _ _ | assumption | (refine below_drewN ?_ _) | (refine Below.drew ?_) | (refine Below.alloc ?_ (by first | omega | (simp; omega) | simp) _) | (refine Below.setCell ?_ (by first | omega | (simp; omega) | simp) _) | (refine below_trans ?_ (by assumption) (by first | omega | (simp; omega) | simp)))))).mono ?_
    rintro e w1 ⟨rfl, hb_w1⟩
    obtain ⟨hc_w1, hf_w1⟩ := bcell hb_w1; have hz_w1_w_0 : w.heap.size < w1.heap.size := (by have hzz := hb_w1.size; (try simp only [World.size_alloc, World.size_setCell, World.size_drew, World.heap_drewN] at hzz); omega); have hz_w1_w_1 : w.heap.size + 1 < w1.heap.size := (by have hzz := hb_w1.size; (try simp only [World.size_alloc, World.size_setCell, World.size_drew, World.heap_drewN] at hzz); omega); have hs_w1 := hb_w1.size; (try simp only [World.size_alloc, World.size_setCell, World.size_drew, World.heap_drewN] at hs_w1)
    go_wp2
    go_ret3
    exact ⟨none, 0, none, 0, rfl, World.ownsRow_nil _ _ _ _, World.ownsRow_nil _ _ _ _, (by repeat (first | exact Below.refl _ _ | assumption | (refine below_drewN ?_ _) | (refine Below.drew ?_) | (refine Below.alloc ?_ (by first | omega | (simp; omega) | simp) _) | (refine Below.setCell ?_ (by first | omega | (simp; omega) | simp) _) | (refine below_trans ?_ (by assumption) (by first | omega | (simp; omega) | simp))))⟩
end
end Go.Proofs.Ytamnfgpoelbgcaa
