/- Contracts: the search among specials by a function that is handed in; the smallest functions of package special. -/
import Derived.Test.YtamnfgpoelbgcaaV2
import Derived.Shelf.Abstract
namespace Go.Proofs.Ytamnfgpoelbgcaa
open Go.RowKit
set_option linter.unusedVariables false
set_option linter.unusedSimpArgs false

/-- what is handed in says p of each special of l, in each world that has what w has -/
def SaysC (g : FuncId) (lb : Array Value) (l : List Sc) (p : Sc → Bool) (w : World) : Prop :=
  ∀ (W : World) (s : Sc), Below w.heap.size w W → s ∈ l → Calls Try.prog g (#[scv s] ++ lb) W fun e W' => e = .returned (.bool (p s)) ∧ Below W.heap.size W W'
/-- the index that slices.IndexFunc tells -/
def ixC (l : List Sc) (p : Sc → Bool) : Int := if l.any p then ((l.findIdx p : Nat) : Int) else -1
theorem ixC_none {l : List Sc} {p : Sc → Bool} (h : ∀ j, j < l.length → p (nthC l j) = false) : l.any p = false := by
  rw [List.any_eq_false]
  intro x hx
  obtain ⟨i, hi, rfl⟩ := List.getElem_of_mem hx
  have := h i hi
  unfold nthC at this
  rw [List.getD_eq_getElem?_getD, List.getElem?_eq_getElem hi] at this
  rw [show p l[i] = false from this]
  simp
theorem nthC_get (l : List Sc) (i : Nat) (hi : i < l.length) : nthC l i = l[i] := by
  unfold nthC
  rw [List.getD_eq_getElem?_getD, List.getElem?_eq_getElem hi]
  rfl
theorem ixC_at {l : List Sc} {p : Sc → Bool} {k : Nat} (hk : k < l.length) (h : ∀ j, j < k → p (nthC l j) = false) (hp : p (nthC l k) = true) : ixC l p = (k : Int) := by
  unfold ixC
  have h1 : l.any p = true := List.any_eq_true.2 ⟨_, nthC_mem l k hk, hp⟩
  rw [if_pos h1]
  have h2 : l.findIdx p = k := by
    rw [List.findIdx_eq hk]
    refine ⟨by rw [← nthC_get l k hk]; exact hp, fun j hj => ?_⟩
    have := h j hj
    rw [nthC_get l j (by omega)] at this
    exact this
  rw [h2]
section
variable {w : World} {A : Option Addr} {l : List Sc} (cap : Nat)
set_option maxHeartbeats 1000000 in
theorem cindex_any (g : FuncId) (lb : Array Value) (p : Sc → Bool) (eg : ∀ args w, (callFunc g args).run Try.prog w = .ok (.enter g args) w) (hr : CRow w w.heap.size A l) (hl : l.length ≤ 17592186044416) (hs : SaysC g lb l p w) :
    Calls Try.prog 37 #[.slice A l.length cap, .func (.func g) #[] lb] w fun e w' => e = .returned (.int .i64 (ixC l p)) ∧ Below w.heap.size w w' := by
  have HS := Lib.hid hs
  clear hs
  go_enter Try.func37, Try.ntmps37
  go_wp2_with fail
  go_loopw [8] (fun ii wr => ∃ k : Nat, ii = .int .i64 (k : Nat) ∧ k ≤ l.length ∧ (∀ j, j < k → p (nthC l j) = false) ∧ Below w.heap.size w wr) (fun ii _ => l.length - (intOf ii).toNat)
  case atStart => exact ⟨0, rfl, Nat.zero_le _, fun j hj => by omega, (by repeat (first | exact Below.refl _ _ | assumption | (refine below_drewN ?_ _) | (refine Below.drew ?_) | (refine Below.alloc ?_ (by first | omega | (simp; omega) | simp) _) | (refine Below.setCell ?_ (by first | omega | (simp; omega) | simp) _) | (refine below_trans ?_ (by assumption) (by first | omega | (simp; omega) | simp))))⟩
  case round =>
    obtain ⟨k, rfl, hk, hA, hb_wr⟩ := hrel
    have hsr := hb_wr.size
    have HA := Lib.hid hA
    clear hA
    by_cases hlt : k < l.length
    · obtain ⟨b, off, rfl, hbb, hc⟩ := (hr.later hb_wr).at_ (by omega)
      have c3 := hc k hlt
      have hcall := HS.out wr (nthC l k) hb_wr (nthC_mem l k hlt)
      obtain ⟨d, hd⟩ : ∃ d, Hid (nthC l k = d) := ⟨_, rfl⟩
      rw [hd.out] at c3 hcall
      obtain ⟨c0, c1, c2⟩ := id c3
      clear hc
      rcases hq : p d with _ | _
      · rw [hq] at hcall
        have HC := Lib.hid hcall
        have HN : Hid (∀ j, j < k + 1 → p (nthC l j) = false) := Lib.hid fun j hj => by
          by_cases e : j = k
          · rw [e, hd.out]; exact hq
          · exact HA.out j (by omega)
        clear hcall
        obtain ⟨a, kk, t⟩ := d
        simp only at c0 c1 c2
        unfold scv at HC
        simp only at HC
        go_wp2_with (refine HC.out.mono ?_; rintro e w1 ⟨rfl, hb_w1⟩; obtain ⟨hc_w1, hf_w1⟩ := bcell hb_w1; have hs_w1 := hb_w1.size; (try simp only [World.size_alloc, World.size_setCell, World.size_drew, World.heap_drewN] at hs_w1))
        go_roundw
        case rel => exact ⟨k + 1, by go_num, by omega, HN.out, (by repeat (first | exact Below.refl _ _ | assumption | (refine below_drewN ?_ _) | (refine Below.drew ?_) | (refine Below.alloc ?_ (by first | omega | (simp; omega) | simp) _) | (refine Below.setCell ?_ (by first | omega | (simp; omega) | simp) _) | (refine below_trans ?_ (by assumption) (by first | omega | (simp; omega) | simp))))⟩
        case measure => simp [intOf]; omega
      · rw [hq] at hcall
        have HC := Lib.hid hcall
        have HX : Hid (ixC l p = (k : Int)) := Lib.hid (ixC_at hlt HA.out (by rw [hd.out]; exact hq))
        clear hcall
        obtain ⟨a, kk, t⟩ := d
        simp only at c0 c1 c2
        unfold scv at HC
        simp only at HC
        go_wp2_with (refine HC.out.mono ?_; rintro e w1 ⟨rfl, hb_w1⟩; obtain ⟨hc_w1, hf_w1⟩ := bcell hb_w1; have hs_w1 := hb_w1.size; (try simp only [World.size_alloc, World.size_setCell, World.size_drew, World.heap_drewN] at hs_w1))
        rw [HX.out]
        go_ret
        exact ⟨rfl, (by repeat (first | exact Below.refl _ _ | assumption | (refine below_drewN ?_ _) | (refine Below.drew ?_) | (refine Below.alloc ?_ (by first | omega | (simp; omega) | simp) _) | (refine Below.setCell ?_ (by first | omega | (simp; omega) | simp) _) | (refine below_trans ?_ (by assumption) (by first | omega | (simp; omega) | simp))))⟩
    · obtain rfl : k = l.length := by omega
      have HX : Hid (ixC l p = -1) := Lib.hid (by unfold ixC; rw [ixC_none HA.out]; rfl)
      go_wp2
      go_ret
      exact ⟨by rw [HX.out]; rfl, (by repeat (first | exact Below.refl _ _ | assumption | (refine below_drewN ?_ _) | (refine Below.drew ?_) | (refine Below.alloc ?_ (by first | omega | (simp; omega) | simp) _) | (refine Below.setCell ?_ (by first | omega | (simp; omega) | simp) _) | (refine below_trans ?_ (by assumption) (by first | omega | (simp; omega) | simp))))⟩
theorem ixC_has (l : List Sc) (p : Sc → Bool) : decide (0 ≤ ixC l p) = l.any p := by
  unfold ixC
  cases h : l.any p
  · simp
  · simp
theorem ccontains_any (g : FuncId) (lb : Array Value) (p : Sc → Bool) (eg : ∀ args w, (callFunc g args).run Try.prog w = .ok (.enter g args) w) (hr : CRow w w.heap.size A l) (hl : l.length ≤ 17592186044416) (hs : SaysC g lb l p w) :
    Calls Try.prog 39 #[.slice A l.length cap, .func (.func g) #[] lb] w fun e w' => e = .returned (.bool (l.any p)) ∧ Below w.heap.size w w' := by
  have H := Lib.hid (cindex_any cap g lb p eg hr hl hs)
  have hh := Lib.hid (ixC_has l p)
  clear hr hs
  go_enter Try.func39, Try.ntmps39
  go_wp2_with fail
  go_at_call 37
  refine (H.out).mono ?_
  rintro e w1 ⟨rfl, hb_w1⟩
  obtain ⟨hc_w1, hf_w1⟩ := bcell hb_w1; have hs_w1 := hb_w1.size; (try simp only [World.size_alloc, World.size_setCell, World.size_drew, World.heap_drewN] at hs_w1)
  go_wp2
  go_ret
  exact ⟨by rw [← hh.out]; rfl, (by repeat (first | exact Below.refl _ _ | assumption | (refine below_drewN ?_ _) | (refine Below.drew ?_) | (refine Below.alloc ?_ (by first | omega | (simp; omega) | simp) _) | (refine Below.setCell ?_ (by first | omega | (simp; omega) | simp) _) | (refine below_trans ?_ (by assumption) (by first | omega | (simp; omega) | simp))))⟩
end
section
variable {w : World} (s : Sc)
theorem cvalid_any : Calls Try.prog 32 #[scv s] w fun e w' => e = .returned (.bool (okc s)) ∧ Below w.heap.size w w' := by
  obtain ⟨a, k, t⟩ := s
  unfold scv okc
  simp only
  by_cases h0 : 0 < a
  · have d0 : decide (0 < a) = true := decide_eq_true h0
    by_cases h1 : k = 1
    · subst h1
      go_enter Try.func32, Try.ntmps32
      go_wp2
      go_ret
      exact ⟨by simp [d0], (by repeat (first | exact Below.refl _ _ | assumption | (refine below_drewN ?_ _) | (refine Below.drew ?_) | (refine Below.alloc ?_ (by first | omega | (simp; omega) | simp) _) | (refine Below.setCell ?_ (by first | omega | (simp; omega) | simp) _) | (refine below_trans ?_ (by assumption) (by first | omega | (simp; omega) | simp))))⟩
    · have d1 : (k == 1) = false := by simpa using h1
      go_enter Try.func32, Try.ntmps32
      go_wp2
      go_ret
      exact ⟨by simp [d0, d1], (by repeat (first | exact Below.refl _ _ | assumption | (refine below_drewN ?_ _) | (refine Below.drew ?_) | (refine Below.alloc ?_ (by first | omega | (simp; omega) | simp) _) | (refine Below.setCell ?_ (by first | omega | (simp; omega) | simp) _) | (refine below_trans ?_ (by assumption) (by first | omega | (simp; omega) | simp))))⟩
  · have d0 : decide (0 < a) = false := decide_eq_false h0
    go_enter Try.func32, Try.ntmps32
    go_wp2
    go_ret
    exact ⟨by simp [d0], (by repeat (first | exact Below.refl _ _ | assumption | (refine below_drewN ?_ _) | (refine Below.drew ?_) | (refine Below.alloc ?_ (by first | omega | (simp; omega) | simp) _) | (refine Below.setCell ?_ (by first | omega | (simp; omega) | simp) _) | (refine below_trans ?_ (by assumption) (by first | omega | (simp; omega) | simp))))⟩
theorem xone_any : Calls Try.prog 34 #[scv s] w fun e w' => e = .returned (.bool (okc s)) ∧ Below w.heap.size w w' := by
  obtain ⟨a, k, t⟩ := s
  unfold scv okc
  simp only
  by_cases h0 : 0 < a
  · have d0 : decide (0 < a) = true := decide_eq_true h0
    by_cases h1 : 0 < k
    · have d1 : decide (0 < k) = true := decide_eq_true h1
      have hk : Hid ((k == 1 || k == 2) = decide (k < 3)) := Lib.hid (by
        rw [Bool.eq_iff_iff]
        simp only [Bool.or_eq_true, beq_iff_eq, decide_eq_true_eq]
        omega)
      go_enter Try.func34, Try.ntmps34
      go_wp2
      go_ret
      exact ⟨by simp [d0, hk.out], (by repeat (first | exact Below.refl _ _ | assumption | (refine below_drewN ?_ _) | (refine Below.drew ?_) | (refine Below.alloc ?_ (by first | omega | (simp; omega) | simp) _) | (refine Below.setCell ?_ (by first | omega | (simp; omega) | simp) _) | (refine below_trans ?_ (by assumption) (by first | omega | (simp; omega) | simp))))⟩
    · have d1 : decide (0 < k) = false := decide_eq_false h1
      have hk : Hid ((k == 1 || k == 2) = false) := Lib.hid (by
        rw [Bool.or_eq_false_iff]
        simp only [beq_eq_false_iff_ne]
        omega)
      go_enter Try.func34, Try.ntmps34
      go_wp2
      go_ret
      exact ⟨by simp [d0, hk.out], (by repeat (first | exact Below.refl _ _ | assumption | (refine below_drewN ?_ _) | (refine Below.drew ?_) | (refine Below.alloc ?_ (by first | omega | (simp; omega) | simp) _) | (refine Below.setCell ?_ (by first | omega | (simp; omega) | simp) _) | (refine below_trans ?_ (by assumption) (by first | omega | (simp; omega) | simp))))⟩
  · have d0 : decide (0 < a) = false := decide_eq_false h0
    go_enter Try.func34, Try.ntmps34
    go_wp2
    go_ret
    exact ⟨by simp [d0], (by repeat (first | exact Below.refl _ _ | assumption | (refine below_drewN ?_ _) | (refine Below.drew ?_) | (refine Below.alloc ?_ (by first | omega | (simp; omega) | simp) _) | (refine Below.setCell ?_ (by first | omega | (simp; omega) | simp) _) | (refine below_trans ?_ (by assumption) (by first | omega | (simp; omega) | simp))))⟩
theorem cell_3 {w : World} {g : Nat} {s : Sc} (t : TypeId) (V : World) (hV : V = w.alloc (.cells #[.int .u64 s.a, .int .u8 s.k, .int .u64 s.t] t)) (hg : g = w.heap.size) : Sp3 V g 0 s := by
  subst hV hg
  exact Sp3.new w s t
theorem eg_behind1 : ∀ args w, (callFunc 38 args).run Try.prog w = .ok (.enter 38 args) w := enters_of Try.func38 (by kernel_rfl) rfl
theorem eg_twice1 : ∀ args w, (callFunc 40 args).run Try.prog w = .ok (.enter 40 args) w := enters_of Try.func40 (by kernel_rfl) rfl
theorem eg_of1 : ∀ args w, (callFunc 28 args).run Try.prog w = .ok (.enter 28 args) w := enters_of Try.func28 (by kernel_rfl) rfl
theorem eg_take1 : ∀ args w, (callFunc 29 args).run Try.prog w = .ok (.enter 29 args) w := enters_of Try.func29 (by kernel_rfl) rfl
theorem eg_take2 : ∀ args w, (callFunc 30 args).run Try.prog w = .ok (.enter 30 args) w := enters_of Try.func30 (by kernel_rfl) rfl
theorem cbehind1_any (x : Int) (B : Nat) (hB : w.cell? ⟨B, 0, none⟩ = some (.int .u64 x)) :
    Calls Try.prog 38 #[scv s, .pointer (some ⟨B, 0, none⟩)] w fun e w' => e = .returned (.bool (decide (x < s.a))) ∧ Below w.heap.size w w' := by
  have hlt := World.block_lt_of_cell? w _ hB
  obtain ⟨a, k, t⟩ := s
  unfold scv
  simp only
  have k0 : (w.alloc (.cells #[.int .u64 a, .int .u8 k, .int .u64 t] 41)).cell? ⟨B, 0, none⟩ = some (.int .u64 x) := (World.cell?_alloc_lt _ _ ⟨_, _, _⟩ hlt).trans hB
  go_enter Try.func38, Try.ntmps38
  go_wp2
  go_ret
  exact ⟨rfl, (by repeat (first | exact Below.refl _ _ | assumption | (refine below_drewN ?_ _) | (refine Below.drew ?_) | (refine Below.alloc ?_ (by first | omega | (simp; omega) | simp) _) | (refine Below.setCell ?_ (by first | omega | (simp; omega) | simp) _) | (refine below_trans ?_ (by assumption) (by first | omega | (simp; omega) | simp))))⟩
theorem cof1_any (x : Int) (B : Nat) (hB : w.cell? ⟨B, 0, none⟩ = some (.int .u64 x)) :
    Calls Try.prog 28 #[scv s, .pointer (some ⟨B, 0, none⟩)] w fun e w' => e = .returned (.bool (s.a == x)) ∧ Below w.heap.size w w' := by
  have hlt := World.block_lt_of_cell? w _ hB
  obtain ⟨a, k, t⟩ := s
  unfold scv
  simp only
  have k0 : (w.alloc (.cells #[.int .u64 a, .int .u8 k, .int .u64 t] 41)).cell? ⟨B, 0, none⟩ = some (.int .u64 x) := (World.cell?_alloc_lt _ _ ⟨_, _, _⟩ hlt).trans hB
  go_enter Try.func28, Try.ntmps28
  go_wp2
  go_ret
  exact ⟨rfl, (by repeat (first | exact Below.refl _ _ | assumption | (refine below_drewN ?_ _) | (refine Below.drew ?_) | (refine Below.alloc ?_ (by first | omega | (simp; omega) | simp) _) | (refine Below.setCell ?_ (by first | omega | (simp; omega) | simp) _) | (refine below_trans ?_ (by assumption) (by first | omega | (simp; omega) | simp))))⟩
theorem ctwice1_any (x : Sc) (B : Nat) (hB : Sp3 w B 0 x) :
    Calls Try.prog 40 #[scv s, .pointer (some ⟨B, 0, none⟩)] w fun e w' => e = .returned (.bool (isF s x)) ∧ Below w.heap.size w w' := by
  have hlt := hB.lt
  obtain ⟨a, k, t⟩ := s
  obtain ⟨c0, c1, c2⟩ := hB
  simp only [Nat.zero_add] at c0 c1 c2
  unfold scv isF
  simp only
  have k0 : (w.alloc (.cells #[.int .u64 a, .int .u8 k, .int .u64 t] 41)).cell? ⟨B, 0, none⟩ = some (.int .u64 x.a) := (World.cell?_alloc_lt _ _ ⟨_, _, _⟩ hlt).trans c0
  by_cases h1 : k = 1
  · subst h1
    go_enter Try.func40, Try.ntmps40
    go_wp2
    go_ret
    exact ⟨by simp, (by repeat (first | exact Below.refl _ _ | assumption | (refine below_drewN ?_ _) | (refine Below.drew ?_) | (refine Below.alloc ?_ (by first | omega | (simp; omega) | simp) _) | (refine Below.setCell ?_ (by first | omega | (simp; omega) | simp) _) | (refine below_trans ?_ (by assumption) (by first | omega | (simp; omega) | simp))))⟩
  · have d1 : (k == 1) = false := by simpa using h1
    go_enter Try.func40, Try.ntmps40
    go_wp2
    go_ret
    exact ⟨by simp [d1], (by repeat (first | exact Below.refl _ _ | assumption | (refine below_drewN ?_ _) | (refine Below.drew ?_) | (refine Below.alloc ?_ (by first | omega | (simp; omega) | simp) _) | (refine Below.setCell ?_ (by first | omega | (simp; omega) | simp) _) | (refine below_trans ?_ (by assumption) (by first | omega | (simp; omega) | simp))))⟩
theorem ctake1_any (x y : Int) (B C : Nat) (hB : w.cell? ⟨B, 0, none⟩ = some (.int .u64 x)) (hC : w.cell? ⟨C, 0, none⟩ = some (.int .u8 y)) :
    Calls Try.prog 29 #[scv s, .pointer (some ⟨B, 0, none⟩), .pointer (some ⟨C, 0, none⟩)] w fun e w' => e = .returned (.bool (s.a == x && s.k == y)) ∧ Below w.heap.size w w' := by
  have hlt := World.block_lt_of_cell? w _ hB
  have hlt2 := World.block_lt_of_cell? w _ hC
  obtain ⟨a, k, t⟩ := s
  unfold scv
  simp only
  have k0 : (w.alloc (.cells #[.int .u64 a, .int .u8 k, .int .u64 t] 41)).cell? ⟨B, 0, none⟩ = some (.int .u64 x) := (World.cell?_alloc_lt _ _ ⟨_, _, _⟩ hlt).trans hB
  have k1 : (w.alloc (.cells #[.int .u64 a, .int .u8 k, .int .u64 t] 41)).cell? ⟨C, 0, none⟩ = some (.int .u8 y) := (World.cell?_alloc_lt _ _ ⟨_, _, _⟩ hlt2).trans hC
  by_cases h1 : a = x
  · subst h1
    go_enter Try.func29, Try.ntmps29
    go_wp2
    go_ret
    exact ⟨by simp, (by repeat (first | exact Below.refl _ _ | assumption | (refine below_drewN ?_ _) | (refine Below.drew ?_) | (refine Below.alloc ?_ (by first | omega | (simp; omega) | simp) _) | (refine Below.setCell ?_ (by first | omega | (simp; omega) | simp) _) | (refine below_trans ?_ (by assumption) (by first | omega | (simp; omega) | simp))))⟩
  · have d1 : (a == x) = false := by simpa using h1
    go_enter Try.func29, Try.ntmps29
    go_wp2
    go_ret
    exact ⟨by simp [d1], (by repeat (first | exact Below.refl _ _ | assumption | (refine below_drewN ?_ _) | (refine Below.drew ?_) | (refine Below.alloc ?_ (by first | omega | (simp; omega) | simp) _) | (refine Below.setCell ?_ (by first | omega | (simp; omega) | simp) _) | (refine below_trans ?_ (by assumption) (by first | omega | (simp; omega) | simp))))⟩
end
end Go.Proofs.Ytamnfgpoelbgcaa
