/- Parts of the proof. -/
import Derived.Test.YtkfmbhlefppkhaaGreatDoorScavQ18
import Derived.Lib.RowBridge
import Derived.Lib.SortBridge
set_option maxRecDepth 100000
set_option linter.unusedVariables false
set_option linter.unusedSimpArgs false
namespace Go.Proofs.YtkfmbhlefppkhaaGreatDoor
open Go.Shelf Go.RowKit Go.Lib Go.Sort
def cmpD (x y : Int) : Int := if y < x then -1 else if x < y then 1 else 0
theorem lt_cmpD (x y : Int) : ltOf cmpD x y = decide (y < x) := by
  unfold ltOf cmpD
  by_cases h1 : y < x
  · simp [h1]
  · by_cases h2 : x < y <;> simp [h1, h2]
theorem swo_cmpD : SWO (ltOf cmpD) where
  irrefl x := by rw [lt_cmpD]; simp
  trans x y z h1 h2 := by rw [lt_cmpD] at *; simp at *; omega
  ntrans x y z h1 h2 := by rw [lt_cmpD] at *; simp at *; omega
theorem tot_cmpD (x y : Int) (h1 : ltOf cmpD x y = false) (h2 : ltOf cmpD y x = false) : x = y := by rw [lt_cmpD] at *; simp at *; omega
theorem ge_cmpD : (fun x y : Int => !ltOf cmpD y x) = fun x y => decide (y ≤ x) := by
  funext x y
  rw [lt_cmpD]
  by_cases h : y ≤ x
  · have h' : ¬ x < y := by omega
    simp [h, h']
  · have h' : x < y := by omega
    simp [h, h']
theorem isnanI_any (x : Int) (w : World) : Calls Tryz.prog 247 #[.int .i64 x] w fun e w' => e = .returned (.bool false) ∧ w = w' := by
  have f1 : (x != x) = false := by simp
  go_enter Tryz.func247, Tryz.ntmps247
  go_wp2
  go_ret
  exact ⟨rfl, rfl⟩
theorem compareI_any (x y : Int) (w : World) : Calls Tryz.prog 205 #[.int .i64 y, .int .i64 x] w fun e w' => e = .returned (.int .i64 (cmpD x y)) ∧ w = w' := by
  unfold cmpD
  have HA := Lib.hid fun (w : World) (a : Int) => isnanI_any a w
  by_cases h1 : y < x
  · rw [if_pos h1]
    have f1 : decide (y < x) = true := decide_eq_true h1
    clear h1
    go_enter Tryz.func205, Tryz.ntmps205
    go_wp2_with (go_at_call 247; refine (HA.out _ _).mono ?_; rintro e w' ⟨rfl, rfl⟩)
    go_ret
    exact ⟨rfl, rfl⟩
  · rw [if_neg h1]
    have f1 : decide (y < x) = false := decide_eq_false h1
    by_cases h2 : x < y
    · rw [if_pos h2]
      have f2 : decide (x < y) = true := decide_eq_true h2
      have f3 : decide (y > x) = true := decide_eq_true h2
      clear h1 h2
      go_enter Tryz.func205, Tryz.ntmps205
      go_wp2_with (go_at_call 247; refine (HA.out _ _).mono ?_; rintro e w' ⟨rfl, rfl⟩)
      go_ret
      exact ⟨rfl, rfl⟩
    · rw [if_neg h2]
      have f2 : decide (x < y) = false := decide_eq_false h2
      have f3 : decide (y > x) = false := decide_eq_false h2
      clear h1 h2
      go_enter Tryz.func205, Tryz.ntmps205
      go_wp2_with (go_at_call 247; refine (HA.out _ _).mono ?_; rintro e w' ⟨rfl, rfl⟩)
      go_ret
      exact ⟨rfl, rfl⟩
theorem runs1_any (x y : Int) (W : World) : Calls Tryz.prog 204 #[.int .i64 x, .int .i64 y] W fun e w' => e = .returned (.int .i64 (cmpD x y)) ∧ ∃ q, w' = W.drewN q := by
  have HC := Lib.hid fun W' => compareI_any x y W'
  generalize cmpD x y = r at *
  go_enter Tryz.func204, Tryz.ntmps204
  go_wp2_with (go_at_call 205; refine (HC.out _).mono ?_; rintro e w' ⟨rfl, rfl⟩)
  go_ret
  exact ⟨rfl, 0, rfl⟩
theorem eg_runs1 : ∀ args w, (callFunc 204 args).run Tryz.prog w = .ok (.enter 204 args) w := enters_of Tryz.func204 (by kernel_rfl) rfl
theorem cmpReadsD (blk off size : Nat) (w : World) : CmpReads Tryz.prog 204 #[] (Value.int .i64) cmpD blk off size w := fun _ _ _ _ x y => runs1_any x y _
def srtD (xs : List Int) : List Int := xs.mergeSort fun x y => decide (y ≤ x)
theorem srtD_perm (xs : List Int) : (srtD xs).Perm xs := List.mergeSort_perm _ _
theorem srtD_len (xs : List Int) : (srtD xs).length = xs.length := (srtD_perm xs).length_eq
theorem grownBy_sortI {w : World} {g n : Nat} {os : Array Obj} (d : Array Int) : w.grownBy (grow (putRow (Value.int .i64) (Sort.ahead w n) g 0 d) os) (some g) := by
  refine ⟨rfl, rfl, rfl, by simp, fun k hk hne => ?_⟩
  rw [Go.Sort.heap_grow_old _ _ (by simpa using hk)]
  have : g ≠ k := fun e => hne (by rw [e])
  simp [Go.Sort.putRow, Go.Sort.mapBlock, Go.Sort.ahead, Array.getElem?_modify, this]
theorem isort_any {w : World} {B cap : Nat} {A : Option Addr} {xs : List Int} (ho : w.ownsRow B 3 1 (.slice A xs.length cap) xs.length (ivals xs)) (hi : ∀ x ∈ xs, I63 x) (hl : xs.length < 4611686018427387904) (hB0 : B ≤ w.heap.size) :
    Calls Tryz.prog 203 #[.slice A xs.length cap, .func (.func 204) #[] #[]] w fun e w' => e = .returned (.tuple #[]) ∧ IRow w' w'.heap.size A (srtD xs) ∧ Below B w w' := by
  by_cases h0 : 0 < xs.length
  · obtain ⟨_, ⟨h1, h2⟩ | ⟨g, cap', cur, e, hB, _⟩⟩ := id ho
    · omega
    · injection e with e1 e2 e3
      subst e1 e3
      have hgl := (ho.lt g rfl).2
      have hc : ∀ j, j < xs.length → w.cell? ⟨g, 0 + j, none⟩ = some (.int .i64 (xs.getD j 0)) := fun j hj => by rw [Nat.zero_add, ho.cellAt j (by omega), ivals_at xs j hj]
      have hf : ∀ j, j < xs.length → w.frozen? ⟨g, 0 + j, none⟩ = false := fun j _ => ho.frozenAt _
      have hH := Lib.holds_of_ints (Nat.le_refl _) hc hf
      rw [List.take_length] at hH
      have hS := Any.slices_SortFunc_total sortIs (Value.int .i64) (fun _ => rfl) cmpD swo_cmpD 204 #[] g 0 cap xs.toArray w eg_runs1 (cmpReadsD g 0 xs.toArray.size w).lays hH hgl (by simpa using hl) tot_cmpD
      rw [ge_cmpD] at hS
      refine hS.mono ?_
      rintro e w' ⟨rfl, n, os, rfl⟩
      have hg := grownBy_sortI (w := w) (g := g) (n := n) (os := os) (xs.toArray.toList.mergeSort fun x y => decide (y ≤ x)).toArray
      have e2 : xs.toArray.toList = xs := by simp
      rw [e2] at hg ⊢
      have hsw := Lib.sorted_world (Value.int .i64) w g 0 n xs.toArray (srtD xs) os hH (by rw [srtD_len]; simp)
      refine ⟨rfl, ⟨fun x hx => hi x ((srtD_perm xs).mem_iff.1 hx), fun _ => ⟨g, 0, rfl, ?_, fun i hi2 => ?_⟩⟩, (Below.refl B w).grown hg hB0 (fun k hk => by injection hk with hk; omega)⟩
      · exact Nat.lt_of_lt_of_le hgl hg.size
      · have hcs := Lib.cells_sorted_ints (W := w) (b := g) (off := 0) (n := xs.length) (q := n) (zs := xs) (ys := srtD xs) (os := os) (Nat.le_refl _) (srtD_len xs) hc i (by rw [List.length_append]; omega)
        rw [List.drop_length, List.append_nil] at hcs
        show (grow (putRow (Value.int .i64) (Sort.ahead w n) g 0 (srtD xs).toArray) os).cell? _ = _
        rw [hsw]
        exact hcs
  · obtain rfl : xs = [] := List.eq_nil_of_length_eq_zero (by omega)
    refine (AnyF.slices_SortFunc_none { sortIs with } A cap _ w).mono ?_
    rintro e w' ⟨rfl, rfl⟩
    have e0 : srtD [] = [] := by simp [srtD]
    exact ⟨rfl, by rw [e0]; exact IRow.nil _ _ _, Below.refl _ _⟩
end Go.Proofs.YtkfmbhlefppkhaaGreatDoor
namespace Go.Proofs.YtkfmbhlefppkhaaGreatDoor
open Go.RowKit
def rsL (us : List Nat) : Nat → List Nat × Nat
  | 0 => ([], 0)
  | k + 1 => if tb us k = true then (if (rsL us k).2 = 0 then ((rsL us k).1, 0) else ((rsL us k).1 ++ [(rsL us k).2], 0)) else ((rsL us k).1, (rsL us k).2 + 1)
def runsL (us : List Nat) (k : Nat) : List Nat := if (rsL us k).2 = 0 then (rsL us k).1 else (rsL us k).1 ++ [(rsL us k).2]
theorem rsL_hit (us : List Nat) (k : Nat) (h : tb us k = true) : rsL us (k + 1) = (runsL us k, 0) := by
  rw [rsL, if_pos h]
  unfold runsL
  split <;> rfl
theorem rsL_miss (us : List Nat) (k : Nat) (h : tb us k = false) : rsL us (k + 1) = ((rsL us k).1, (rsL us k).2 + 1) := by rw [rsL, h, if_neg (by simp)]
theorem runsL_of {us : List Nat} {k : Nat} {l : List Nat} (h : rsL us k = (l, 0)) : runsL us k = l := by unfold runsL; rw [h]; simp
theorem runsL_skip (us : List Nat) (a : Nat) : ∀ m, (∀ j, a ≤ j → j < a + m → tb us j = true) → runsL us (a + m) = runsL us a ∧ (0 < m → (rsL us (a + m)).2 = 0) := by
  intro m
  induction m with
  | zero => intro _; exact ⟨rfl, fun h => by omega⟩
  | succ m ih =>
    intro h
    have h1 := rsL_hit us (a + m) (h (a + m) (by omega) (by omega))
    have h2 := (ih fun j g1 g2 => h j g1 (by omega)).1
    rw [h2] at h1
    exact ⟨runsL_of h1, fun _ => by show (rsL us (a + m + 1)).2 = 0; rw [h1]⟩
theorem rsL_run (us : List Nat) (a : Nat) : ∀ m, (∀ j, a ≤ j → j < a + m → tb us j = false) → rsL us (a + m) = ((rsL us a).1, (rsL us a).2 + m) := by
  intro m
  induction m with
  | zero => intro _; rfl
  | succ m ih =>
    intro h
    have h1 := rsL_miss us (a + m) (h (a + m) (by omega) (by omega))
    rw [ih fun j g1 g2 => h j g1 (by omega)] at h1
    exact h1
theorem runsL_next (us : List Nat) {a b e : Nat} (hab : a ≤ b) (hbe : b < e) (h0 : a = b → (rsL us a).2 = 0) (h1 : ∀ j, a ≤ j → j < b → tb us j = true) (h2 : ∀ j, b ≤ j → j < e → tb us j = false) : runsL us e = runsL us a ++ [e - b] := by
  obtain ⟨m, rfl⟩ : ∃ m, b = a + m := ⟨b - a, by omega⟩
  obtain ⟨q, rfl⟩ : ∃ q, e = a + m + q := ⟨e - (a + m), by omega⟩
  have k1 := runsL_skip us a m h1
  have k2 := rsL_run us (a + m) q h2
  have k3 : (rsL us (a + m)).2 = 0 := by
    by_cases hm : m = 0
    · subst hm; exact h0 rfl
    · exact k1.2 (by omega)
  rw [k3] at k2
  have k4 : runsL us (a + m) = (rsL us (a + m)).1 := by unfold runsL; rw [k3]; simp
  unfold runsL
  rw [k2]
  rw [if_neg (by show ¬ (0 + q = 0); omega)]
  show (rsL us (a + m)).1 ++ [0 + q] = _
  rw [← k4, k1.1]
  congr 2
  omega
structure RsP (us : List Nat) (k : Nat) (l : List Nat) (o : Nat) : Prop where
  sum : l.sum + o + countTo us k = k
  pos : ∀ x ∈ l, 1 ≤ x
  open_ : o = zs us k
  le : ∀ x ∈ l, x ≤ best us k
  hit : best us k = 0 ∨ best us k = o ∨ best us k ∈ l
theorem rsP (us : List Nat) (k : Nat) : RsP us k (rsL us k).1 (rsL us k).2 := by
  induction k with
  | zero => exact ⟨rfl, fun x hx => by simp [rsL] at hx, rfl, fun x hx => by simp [rsL] at hx, .inl rfl⟩
  | succ k ih =>
    obtain ⟨h1, h2, h3, h4, h5⟩ := ih
    have hb : best us (k + 1) = max (best us k) (zs us (k + 1)) := rfl
    have hc : countTo us (k + 1) = countTo us k + if tb us k then 1 else 0 := rfl
    have hz : zs us (k + 1) = if tb us k then 0 else zs us k + 1 := rfl
    have hzb := best_ge us k k (Nat.le_refl _)
    rcases ht : tb us k with _ | _
    · rw [rsL_miss us k ht]
      rw [ht] at hc hz
      simp only [Bool.false_eq_true, if_false] at hc hz
      refine ⟨?_, h2, ?_, fun x hx => ?_, ?_⟩
      · show (rsL us k).1.sum + ((rsL us k).2 + 1) + countTo us (k + 1) = k + 1
        rw [hc]; omega
      · show (rsL us k).2 + 1 = _
        rw [hz, h3]
      · have := h4 x hx
        omega
      · show best us (k + 1) = 0 ∨ best us (k + 1) = (rsL us k).2 + 1 ∨ best us (k + 1) ∈ (rsL us k).1
        rw [hb, hz, ← h3]
        by_cases hm : best us k ≤ (rsL us k).2 + 1
        · rw [Nat.max_eq_right hm]; exact .inr (.inl rfl)
        · rw [Nat.max_eq_left (by omega)]
          rcases h5 with h5 | h5 | h5
          · omega
          · omega
          · exact .inr (.inr h5)
    · rw [rsL_hit us k ht]
      rw [ht] at hc hz
      simp only [if_true] at hc hz
      rw [hz] at hb
      rw [Nat.max_eq_left (Nat.zero_le _)] at hb
      unfold runsL
      by_cases ho : (rsL us k).2 = 0
      · rw [if_pos ho]
        refine ⟨?_, h2, hz.symm, fun x hx => ?_, ?_⟩
        · show (rsL us k).1.sum + 0 + countTo us (k + 1) = k + 1
          rw [hc]; omega
        · rw [hb]; exact h4 x hx
        · show best us (k + 1) = 0 ∨ best us (k + 1) = 0 ∨ best us (k + 1) ∈ (rsL us k).1
          rw [hb]
          rcases h5 with h5 | h5 | h5
          · exact .inl h5
          · exact .inl (by omega)
          · exact .inr (.inr h5)
      · rw [if_neg ho]
        refine ⟨?_, fun x hx => ?_, hz.symm, fun x hx => ?_, ?_⟩
        · show ((rsL us k).1 ++ [(rsL us k).2]).sum + 0 + countTo us (k + 1) = k + 1
          rw [hc, List.sum_append]
          simp
          omega
        · rcases List.mem_append.1 hx with hx | hx
          · exact h2 x hx
          · rw [List.mem_singleton] at hx; omega
        · rw [hb]
          rcases List.mem_append.1 hx with hx | hx
          · exact h4 x hx
          · rw [List.mem_singleton] at hx; omega
        · show best us (k + 1) = 0 ∨ best us (k + 1) = 0 ∨ best us (k + 1) ∈ (rsL us k).1 ++ [(rsL us k).2]
          rw [hb]
          rcases h5 with h5 | h5 | h5
          · exact .inl h5
          · exact .inr (.inr (by rw [List.mem_append, h5]; exact .inr (by simp)))
          · exact .inr (.inr (List.mem_append.2 (.inl h5)))
structure RunsP (us : List Nat) (k : Nat) (l : List Nat) : Prop where
  sum : l.sum + countTo us k = k
  pos : ∀ x ∈ l, 1 ≤ x
  le : ∀ x ∈ l, x ≤ best us k
  hit : best us k = 0 ∨ best us k ∈ l
theorem runsP (us : List Nat) (k : Nat) : RunsP us k (runsL us k) := by
  obtain ⟨h1, h2, h3, h4, h5⟩ := rsP us k
  have hzb := best_ge us k k (Nat.le_refl _)
  unfold runsL
  by_cases ho : (rsL us k).2 = 0
  · rw [if_pos ho]
    refine ⟨by omega, h2, h4, ?_⟩
    rcases h5 with h5 | h5 | h5
    · exact .inl h5
    · exact .inl (by omega)
    · exact .inr h5
  · rw [if_neg ho]
    refine ⟨by rw [List.sum_append]; simp; omega, fun x hx => ?_, fun x hx => ?_, ?_⟩
    · rcases List.mem_append.1 hx with hx | hx
      · exact h2 x hx
      · rw [List.mem_singleton] at hx; omega
    · rcases List.mem_append.1 hx with hx | hx
      · exact h4 x hx
      · rw [List.mem_singleton] at hx; omega
    · rcases h5 with h5 | h5 | h5
      · exact .inl h5
      · exact .inr (by rw [List.mem_append, h5]; exact .inr (by simp))
      · exact .inr (List.mem_append.2 (.inl h5))
theorem runsL_len (us : List Nat) (k : Nat) : (runsL us k).length ≤ k := by
  obtain ⟨h1, h2, _, _⟩ := runsP us k
  have : ∀ l : List Nat, (∀ x ∈ l, 1 ≤ x) → l.length ≤ l.sum := by
    intro l
    induction l with
    | nil => intro _; exact Nat.le_refl _
    | cons a l ih =>
      intro h
      have h3 := ih fun x hx => h x (List.mem_cons_of_mem _ hx)
      have h4 := h a (List.mem_cons_self)
      simp only [List.length_cons, List.sum_cons]
      omega
  have := this _ h2
  omega
def rInts (us : List Nat) (k : Nat) : List Int := (runsL us k).map fun (x : Nat) => (x : Int)
theorem rInts_len (us : List Nat) (k : Nat) : (rInts us k).length = (runsL us k).length := by simp [rInts]
theorem rInts_in (us : List Nat) (k : Nat) (hk : k ≤ 4096) : ∀ x ∈ rInts us k, I63 x := by
  intro x hx
  obtain ⟨q, hq, rfl⟩ := List.mem_map.1 hx
  have h1 := (runsP us k).le q hq
  have h2 := best_le us k
  unfold I63
  omega
theorem ivals_snoc (l : List Int) (x : Int) : ivals (l ++ [x]) = ivals l ++ ivals [x] := by simp [ivals]
section
variable {w : World} {v : Hv} {O : Option Addr} {s : Sc} (co : Nat)
set_option maxHeartbeats 2000000 in
theorem frunEnd_any (m : SM w v O s) (hk : OkS s) (a : Nat) (ha : (a : Int) ≤ s.n) :
    Calls Tryz.prog 202 #[scV v O co s, .int .i64 (a : Nat)] w fun e w' => (∃ i, e = .returned (.int .i64 i) ∧ NextP s.h.us true a s.n i) ∧ Below w.heap.size w w' := by
  have HFI := Lib.hid fun (w : World) hr => first_in (n := s.h.n) (A := v.U) (ws := s.h.us) (w := w) (cap := v.cu) (a := (a : Int)) (v := true) hr hk.h.framed.pages (by omega) (by rw [← hk.n]; exact ha)
  have hn := Lib.hid hk.n
  unfold Told at HFI
  clear hk
  unfold scV
  go_enter Tryz.func202, Tryz.ntmps202
  go_wp2_with fail
  go_at_call 200
  refine (HFI.out _ (m.h.u.later bX)).mono ?_
  rintro e w1 ⟨⟨i, why, rfl, hp⟩, hb_w1⟩
  obtain ⟨hc_w1, hf_w1⟩ := bcell hb_w1; have hz_w1_w_0 : w.heap.size < w1.heap.size := lY hb_w1.size; have hz_w1_w_1 : w.heap.size + 1 < w1.heap.size := lY hb_w1.size; have hs_w1 := hb_w1.size; (try simp only [zZ] at hs_w1)
  rcases hp with ⟨rfl, p1, p2, p3, p4⟩ | ⟨rfl, rfl, p4⟩
  · have HP := Lib.hid p4
    clear p4
    go_wp2
    go_ret
    exact ⟨⟨i, rfl, p1, by have := hn.out; omega, HP.out, fun _ => p3⟩, bX⟩
  · have HP := Lib.hid p4
    clear p4
    go_wp2
    go_ret
    exact ⟨⟨s.h.n, rfl, by have := hn.out; omega, by have := hn.out; omega, HP.out, fun hh => absurd hh (by have := hn.out; omega)⟩, bX⟩
set_option maxHeartbeats 8000000 in
theorem fruns_any (m : SM w v O s) (hk : OkS s) :
    Calls Tryz.prog 132 #[scV v O co s] w fun e w' => ∃ A c, e = .returned (.slice A (srtD (rInts s.h.us s.n.toNat)).length c) ∧ IRow w' w'.heap.size A (srtD (rInts s.h.us s.n.toNat)) ∧ Below w.heap.size w w' := by
  obtain ⟨i0, hi, hz0, hz1, hz2⟩ := info_parts info_int
  obtain ⟨n0, n1, _⟩ := hk.nn
  obtain ⟨N, hN⟩ : ∃ N : Nat, s.n = (N : Int) := ⟨s.n.toNat, by omega⟩
  have HRE := Lib.hid fun (w : World) m a ha => frunEnd_any (w := w) (v := v) (O := O) (s := s) co m hk a ha
  have HFI := Lib.hid fun (w : World) (a : Int) hr h0 h1 => first_in (n := s.h.n) (A := v.U) (ws := s.h.us) (w := w) (cap := v.cu) (a := a) (v := false) hr hk.h.framed.pages h0 h1
  unfold Told at HFI
  have hhn := hk.n.symm.trans hN
  have hN2 : s.n.toNat = N := by omega
  have HSO := Lib.hid fun (w : World) (B n cap : Nat) (A : Option Addr) (xs : List Int) (hn : xs.length = n) (ho : w.ownsRow B 3 1 (.slice A n cap) n (ivals xs)) (hi : ∀ x ∈ xs, I63 x) (hl : xs.length < 4611686018427387904) (hB : B ≤ w.heap.size) => (show Calls Tryz.prog 203 #[.slice A n cap, .func (.func 204) #[] #[]] w (fun e w' => e = .returned (.tuple #[]) ∧ IRow w' w'.heap.size A (srtD xs) ∧ Below B w w') by subst hn; exact isort_any ho hi hl hB)
  rw [hN2]
  rw [hhn] at HFI
  rw [hN] at HRE
  clear hk
  have HM := Lib.hid m
  unfold scV at HRE ⊢
  rw [hhn] at HRE ⊢
  rw [hN] at HRE ⊢
  obtain ⟨us, hus⟩ : ∃ us, Hid (s.h.us = us) := ⟨_, Lib.hid rfl⟩
  have hmu := Lib.hid m.h.u
  rw [hus.out] at HRE HFI hmu ⊢
  have N4 : N ≤ 4096 := by omega
  clear n0 n1 hhn hN hN2 m
  have t0 := (E8.new w (.slice v.A s.h.ws.length v.ca) (.int .i64 (N : Nat)) (.slice v.U us.length v.cu) (.slice v.V s.h.l.length v.cv) (.int .i64 (N : Nat)) (.slice O s.os.length co) (.int .u64 (s.fa : Nat)) (.int .u64 (s.go : Nat)) 184).later ((Below.refl _ _).alloc (Nat.le_refl _) (.cells #[.int .i64 (N : Nat), .slice v.U us.length v.cu] 26))
  have d0 := Two.new1 w (.cells #[.slice v.A s.h.ws.length v.ca, .int .i64 (N : Nat), .slice v.U us.length v.cu, .slice v.V s.h.l.length v.cv, .int .i64 (N : Nat), .slice O s.os.length co, .int .u64 (s.fa : Nat), .int .u64 (s.go : Nat)] 184) (.int .i64 (N : Nat)) (.slice v.U us.length v.cu) 26
  have b0 : Below w.heap.size w ((w.alloc (.cells #[.slice v.A s.h.ws.length v.ca, .int .i64 (N : Nat), .slice v.U us.length v.cu, .slice v.V s.h.l.length v.cv, .int .i64 (N : Nat), .slice O s.os.length co, .int .u64 (s.fa : Nat), .int .u64 (s.go : Nat)] 184)).alloc (.cells #[.int .i64 (N : Nat), .slice v.U us.length v.cu] 26)) := bX
  have s0 : ((w.alloc (.cells #[.slice v.A s.h.ws.length v.ca, .int .i64 (N : Nat), .slice v.U us.length v.cu, .slice v.V s.h.l.length v.cv, .int .i64 (N : Nat), .slice O s.os.length co, .int .u64 (s.fa : Nat), .int .u64 (s.go : Nat)] 184)).alloc (.cells #[.int .i64 (N : Nat), .slice v.U us.length v.cu] 26)).heap.size = w.heap.size + 2 := by simp only [zA]
  go_enter Tryz.func132, Tryz.ntmps132
  go_wp2_with fail
  generalize (w.alloc (.cells #[.slice v.A s.h.ws.length v.ca, .int .i64 (N : Nat), .slice v.U us.length v.cu, .slice v.V s.h.l.length v.cv, .int .i64 (N : Nat), .slice O s.os.length co, .int .u64 (s.fa : Nat), .int .u64 (s.go : Nat)] 184)).alloc (.cells #[.int .i64 (N : Nat), .slice v.U us.length v.cu] 26) = W0 at *
  go_at_call 200
  refine (HFI.out _ _ (hmu.out.later b0) (by omega) (by omega)).mono ?_
  rintro e w2 ⟨⟨j0, y0, rfl, hF0⟩, hb_w2⟩
  have HF0 := Lib.hid hF0
  clear hF0
  go_wp2_with fail
  go_loopw [4, 5, 6, 7] (fun lv ev iv yv wr => ∃ (ed n : Nat) (i y : Int) (Al : Option Addr) (cl : Nat), lv = .slice Al n cl ∧ ev = .int .i64 (ed : Nat) ∧ iv = .int .i64 i ∧ yv = .int .i64 y ∧ Hid (FirstP us false (ed : Int) (N : Nat) i y) ∧ ed ≤ N ∧ Hid (ed = 0 ∨ ed = N ∨ tb us ed = true) ∧ Hid ((rInts us ed).length = n) ∧ wr.ownsRow W0.heap.size 3 1 (.slice Al n cl) n (ivals (rInts us ed)) ∧ Below W0.heap.size W0 wr) (fun _ _ iv yv _ => if intOf yv = 0 then ((N : Int) - intOf iv).toNat + 1 else 0)
  case atStart => exact ⟨0, 0, j0, y0, none, 0, rfl, rfl, rfl, rfl, HF0, Nat.zero_le _, Lib.hid (.inl rfl), Lib.hid rfl, World.ownsRow_nil _ _ _ _, hb_w2⟩
  case round =>
    clear hb_w2
    obtain ⟨ed, n, i, y, Al, cl, rfl, rfl, rfl, rfl, hF, hed, hB, hL, hO, hb⟩ := hrel
    have hsr := hb.size
    have t1 := t0.later hb
    have d1 := d0.later hb
    have bw := b0.trans (hb.mono b0.size)
    rcases hF.out with ⟨rfl, p1, p2, p3, p4⟩ | ⟨rfl, rfl, p4⟩
    · obtain ⟨j, rfl⟩ : ∃ j : Nat, i = (j : Int) := ⟨i.toNat, by omega⟩
      simp only [Int.toNat_natCast] at p3
      have HT1 : Hid (∀ k, ed ≤ k → k < j → tb us k = true) := Lib.hid fun k h1 h2 => by
        have := p4 k (by omega) (by omega)
        simpa using this
      have HE0 : Hid (ed = j → (rsL us ed).2 = 0) := Lib.hid fun e => by
        rcases hB.out with h | h | h
        · rw [h]; rfl
        · omega
        · rw [e, p3] at h; cases h
      have P3 := Lib.hid p3
      clear p4 hF hB p3
      obtain ⟨x0, x1, x2, x3, x4, x5, x6, x7, xf⟩ := id t1
      obtain ⟨z0, z1, zf⟩ := id d1
      go_wp2_with fail
      go_at_call 202
      refine (HRE.out _ (HM.out.later bw) j (by omega)).mono ?_
      rintro e w3 ⟨⟨i2, rfl, q1, q2, q3, q4⟩, hb_w3⟩
      obtain ⟨e2, rfl⟩ : ∃ e2 : Nat, i2 = (e2 : Int) := ⟨i2.toNat, by omega⟩
      simp only [Int.toNat_natCast] at q4
      have hje : j < e2 := by
        by_cases h : e2 = j
        · subst h
          have := q4 p2
          rw [P3.out] at this
          cases this
        · omega
      have HT2 : Hid (∀ k, j ≤ k → k < e2 → tb us k = false) := Lib.hid fun k h1 h2 => by
        have := q3 k (by omega) (by omega)
        simpa using this
      have HRL : Hid (rInts us e2 = rInts us ed ++ [((e2 - j : Nat) : Int)]) := Lib.hid (by
        unfold rInts
        rw [runsL_next us (by omega) hje HE0.out HT1.out HT2.out, List.map_append]
        rfl)
      have HB2 : Hid (e2 = 0 ∨ e2 = N ∨ tb us e2 = true) := Lib.hid (by
        by_cases h : e2 < N
        · exact .inr (.inr (q4 (by omega)))
        · exact .inr (.inl (by omega)))
      have he2N : e2 ≤ N := by omega
      have hOL := hO.lt
      have hO3 := owns_laterN hO hb_w3
      have hb3 := hb.trans (hb_w3.mono hsr)
      have s3 := hb_w3.size
      have d3 := d1.later hb_w3
      have sub : IntKind.i64.wrap ((e2 : Int) - (j : Int)) = (((e2 - j : Nat) : Nat) : Int) := by rw [IntWalk.i64_in _ (by omega)]; omega
      obtain ⟨x, hx⟩ : ∃ x : Nat, e2 - j = x := ⟨_, rfl⟩
      rw [hx] at sub HRL
      have hxl : x ≤ 4096 := by omega
      have hL4 : n ≤ 4096 := by rw [← hL.out, rInts_len]; have := runsL_len us ed; omega
      have HROW := Lib.hid fun W' hb => (owns_laterN hO3 hb : World.ownsRow W' W0.heap.size 3 1 (.slice Al n cl) n (ivals (rInts us ed)))
      have HBL : Hid (∀ (ob : Obj) (w9 : World), (w3.alloc ob).grownBy w9 (Value.slice Al n cl).ownBlock → Below W0.heap.size W0 w9) := Lib.hid fun ob w9 h1 => Below.grown (w := w3.alloc ob) (hb3.alloc (by omega) ob) h1 (by rw [World.size_alloc]; omega) (fun q hq => (hOL q (by first | exact hq | exact hq.symm)).1)
      clear q1 q2 q3 q4 HT1 HT2 HE0 P3 hO t1 d1 hb bw hOL hO3 hb_w3 hx z0 z1 zf d3 x0 x1 x2 x3 x4 x5 x6 x7 xf
      have hF := HM
      go_wp2_with (at_builtin; refine wpList_append_lies _ ?_ (.tmp 29) (.tmp 33) 76 ?_ W0.heap.size 3 i0 _ 1 8 Tryz.underlying76 hi hz0 hz1 hz2 rfl (by omega) (.slice Al n cl) n (ivals (rInts us ed)) ?_ (HROW.out _ bX) ⟨w3.heap.size, 0, none⟩ 1 1 (ivals [(x : Int)]) ?_ rfl ?_ (ivals_one _) (by omega) (by unfold maxLen; omega) (by omega) (by simp only [zA]; omega) _ rfl ?_; rfl; rfl; rfl; rfl; (intro k u hj; rw [add_form]; have hj0 : k = 0 := (by have := (List.getElem?_eq_some_iff.1 hj).1; simpa [ivals] using this); subst hj0; have hu : u = .int .i64 (x : Nat) := (by simpa [ivals] using hj.symm); subst hu; simp [go_sem]); intro g9 cap9 w9 hown9 hg9 hat9 hlt9; have hb9 := HBL.out _ _ hg9; have hO9 : w9.ownsRow W0.heap.size 3 1 (.slice (some ⟨g9, 0, none⟩) (n + 1) cap9) (n + 1) (ivals (rInts us e2)) := (by rw [HRL.out, ivals_snoc]; exact hown9); have HL9 : Hid ((rInts us e2).length = n + 1) := Lib.hid (by rw [HRL.out, List.length_append, hL.out]; rfl); have d9 := d0.later hb9; have t9 := t0.later hb9; have s9 := hb9.size; have bw9 := b0.trans (hb9.mono b0.size); clear HBL HROW hg9 hat9 hown9; obtain ⟨z0, z1, zf⟩ := id d9)
      go_at_call 200
      refine (HFI.out _ _ (hmu.out.later bw9) (by omega) (by omega)).mono ?_
      rintro e w5 ⟨⟨i4, y4, rfl, hF4⟩, hb_w5⟩
      have HF4 := Lib.hid hF4
      have hO5 := owns_laterN hO9 hb_w5
      have hb5 := hb9.trans (hb_w5.mono s9)
      have HMS : Hid (∀ m : Nat, m = (if y4 = 0 then ((N : Int) - i4).toNat + 1 else 0) → m < ((N : Int) - (j : Int)).toNat + 1) := Lib.hid fun m hm => by
        rcases hF4 with ⟨q0, q1, q2, _⟩ | ⟨q0, _⟩
        · rw [if_pos q0] at hm; omega
        · rw [if_neg (by omega)] at hm; omega
      clear hF4 hO9 hb9 d9 t9 hb_w5 z0 z1 zf
      go_wp2
      go_roundw
      case rel => exact ⟨e2, n + 1, i4, y4, some ⟨g9, 0, none⟩, cap9, rfl, rfl, rfl, rfl, HF4, he2N, HB2, HL9, hO5, hb5⟩
      case measure => exact HMS.out _ rfl
    · have HEQ : Hid (rInts us N = rInts us ed) := Lib.hid (by
        have h := (runsL_skip us ed (N - ed) (fun k h1 h2 => by
          have := p4 k (by omega) (by omega)
          simpa using this)).1
        rw [show ed + (N - ed) = N by omega] at h
        unfold rInts
        rw [h])
      have hL4 : n ≤ 4096 := by rw [← hL.out, rInts_len]; have := runsL_len us ed; omega
      clear p4 hF hB t1 d1
      go_wp2_with fail
      go_at_call 203
      refine (HSO.out _ _ _ _ _ _ hL.out hO (rInts_in us ed (by omega)) (by rw [hL.out]; omega) hsr).mono ?_
      rintro e w6 ⟨rfl, hI, hb_w6⟩
      have bw6 := b0.trans ((hb.trans hb_w6).mono b0.size)
      have HLN : Hid ((srtD (rInts us N)).length = n) := Lib.hid (by rw [srtD_len, HEQ.out]; exact hL.out)
      have HI2 : Hid (IRow w6 w6.heap.size Al (srtD (rInts us N))) := Lib.hid (by rw [HEQ.out]; exact hI)
      clear hb hb_w6 hI hO
      go_wp2
      go_ret
      exact ⟨Al, cl, by rw [HLN.out]; rfl, HI2.out, bw6⟩
def RunE (s : Sc) (t : List Int) (y : Int) : Prop := (¬ OkS s ∧ t = [] ∧ y = 2) ∨ (OkS s ∧ t = srtD (rInts s.h.us s.n.toNat) ∧ y = 0)
theorem RunE.ex (s : Sc) : ∃ t y, RunE s t y := by
  by_cases hk : OkS s
  · exact ⟨_, _, .inr ⟨hk, rfl, rfl⟩⟩
  · exact ⟨_, _, .inl ⟨hk, rfl, rfl⟩⟩
set_option maxHeartbeats 2000000 in
theorem frunsX_any (hz : Sizes w) (m : SM w v O s) (hs : Short s.h) (t : List Int) (y : Int) (hE : RunE s t y) :
    Calls Tryz.prog 55 #[scV v O co s] w fun e w' => ∃ A c, e = .returned (.tuple #[.slice A t.length c, .int .i64 y]) ∧ IRow w' w'.heap.size A t ∧ Below w.heap.size w w' := by
  rcases hE with ⟨hk, rfl, rfl⟩ | ⟨hk, he, rfl⟩
  · have HV := Lib.hid fun (w : World) z m => fview_bad (w := w) (v := v) (O := O) (s := s) co z m hs hk
    clear hk hs
    unfold scV at HV ⊢
    unfold hv0 sc0 hp0 at HV
    simp only at HV
    go_enter Tryz.func55, Tryz.ntmps55
    go_wp2_with fail
    go_at_call 123
    refine (HV.out _ (hz.later bX) (m.later bX)).mono ?_
    rintro e w1 ⟨rfl, hb_w1⟩
    obtain ⟨hc_w1, hf_w1⟩ := bcell hb_w1; have hz_w1_w_0 : w.heap.size < w1.heap.size := lY hb_w1.size; have hs_w1 := hb_w1.size; (try simp only [zZ] at hs_w1)
    go_wp2
    go_ret2
    exact ⟨none, 0, rfl, IRow.nil _ _ _, bX⟩
  · have HV := Lib.hid fun (w : World) z m => fview_ok (w := w) (v := v) (O := O) (s := s) co z m hk
    have HR := Lib.hid fun (w : World) m => fruns_any (w := w) (v := v) (O := O) (s := s) co m hk
    rw [← he] at HR
    clear hk hs he
    unfold scV at HV HR ⊢
    go_enter Tryz.func55, Tryz.ntmps55
    go_wp2_with fail
    go_at_call 123
    refine (HV.out _ (hz.later bX) (m.later bX)).mono ?_
    rintro e w1 ⟨rfl, hb_w1⟩
    obtain ⟨hc_w1, hf_w1⟩ := bcell hb_w1; have hz_w1_w_0 : w.heap.size < w1.heap.size := lY hb_w1.size; have hs_w1 := hb_w1.size; (try simp only [zZ] at hs_w1)
    have b1 : Below w.heap.size w w1 := bX
    have t1 := E8.new w1 (.slice v.A s.h.ws.length v.ca) (.int .i64 s.h.n) (.slice v.U s.h.us.length v.cu) (.slice v.V s.h.l.length v.cv) (.int .i64 s.n) (.slice O s.os.length co) (.int .u64 (s.fa : Nat)) (.int .u64 (s.go : Nat)) 184
    clear hc_w1 hf_w1
    obtain ⟨x0, x1, x2, x3, x4, x5, x6, x7, xf⟩ := id t1
    go_wp2_with fail
    go_at_call 132
    refine (HR.out _ ((m.later b1).later bX)).mono ?_
    rintro e w2 ⟨A, c, rfl, hI, hb_w2⟩
    have b2 : Below w.heap.size w w2 := bX
    go_wp2
    go_ret2
    exact ⟨A, c, rfl, hI, b2⟩
end
theorem Two.grownF {w w' : World} {g : Nat} {row : Option Nat} {u0 u1 : Value} (h : Two w g u0 u1) (hg : w.grownBy w' row) (hne : some g ≠ row) : Two w' g u0 u1 := by
  have hb := hg.block g (World.block_lt_of_cell? _ _ h.c0) hne
  exact ⟨(World.cell?_of_block (a := ⟨g, 0, none⟩) hb).trans h.c0, (World.cell?_of_block (a := ⟨g, 1, none⟩) hb).trans h.c1, fun i => (World.frozen?_of_block (a := ⟨g, i, none⟩) hb).trans (h.fr i)⟩
set_option maxHeartbeats 4000000 in
theorem frec_any {w : World} {b B : Nat} {v : Hv} {O : Option Addr} {co : Nat} {s : Sc} (hx : E8 w b (.slice v.A s.h.ws.length v.ca) (.int .i64 s.h.n) (.slice v.U s.h.us.length v.cu) (.slice v.V s.h.l.length v.cv) (.int .i64 s.n) (.slice O s.os.length co) (.int .u64 (s.fa : Nat)) (.int .u64 (s.go : Nat))) (m : OwnsSc w B v O s) (hb : b < B) (hB : B ≤ w.heap.size) (ho : Right s.n s.os) (hu : Right s.n s.h.us) (hn : s.n = s.h.n) (hf : s.fa < W64) (s' : Sc) (e' : s' = newSc s s.h) :
    Calls Tryz.prog 125 #[.pointer (some ⟨b, 0, none⟩)] w fun e w' => ∃ O' co', e = .returned (.tuple #[]) ∧ E8 w' b (.slice v.A s'.h.ws.length v.ca) (.int .i64 s'.h.n) (.slice v.U s'.h.us.length v.cu) (.slice v.V s'.h.l.length v.cv) (.int .i64 s'.n) (.slice O' s'.os.length co') (.int .u64 (s'.fa : Nat)) (.int .u64 (s'.go : Nat)) ∧ OwnsSc w' B v O' s' ∧ w.grownBy w' (some b) := by
  obtain ⟨h, n, os, fa, go⟩ := s
  subst e'
  unfold newSc
  simp only at *
  have hms := right_both ho (right_same ho hu)
  have n0 := ho.1
  have n1 := ho.2.1
  have hlong := ho.long
  obtain ⟨N, rfl⟩ : ∃ N : Nat, n = (N : Int) := ⟨n.toNat, by omega⟩
  simp only [Int.toNat_natCast] at *
  have HMI := Lib.hid fun (w : World) m => fmissing_in (w := w) (v := v) (O := O) (s := ⟨h, (N : Nat), os, fa, go⟩) co m ho hu hn
  unfold scV misW at HMI
  simp only at HMI
  generalize bothTo os h.us h.us.length = ms at *
  unfold Fresh at HMI
  have HPU := Lib.hid fun (w : World) (O : Option Addr) (co : Nat) (os : List Nat) (i : Nat) hr (hR : Right (N : Nat) os) hi => put_in (N := (N : Nat)) (A := O) (ws := os) (w := w) (cap := co) (v := false) (i := (i : Int)) hr hR (by omega) hi
  simp only [Int.toNat_natCast] at HPU
  unfold Fresh at HPU
  have HFI := Lib.hid fun (w : World) (A : Option Addr) (c : Nat) (a : Int) hr h0 h1 => first_in (n := (N : Nat)) (A := A) (ws := ms) (w := w) (cap := c) (a := a) (v := true) hr hms h0 h1
  unfold Told at HFI
  have HRO : Hid (∀ p : Nat, p ≤ N → Right (N : Nat) (recW ms p os)) := Lib.hid fun p hp => recW_right ms ho p (by omega)
  have hm0 := m.h
  have ho0 := m.o
  have hx0 := hx
  have hsm := m.sm
  clear m ho hu hn hms
  obtain ⟨x0, x1, x2, x3, x4, x5, x6, x7, xf⟩ := id hx
  go_enter Tryz.func125, Tryz.ntmps125
  go_wp2_with fail
  go_at_call 198
  refine (HMI.out _ hsm).mono ?_
  rintro e w1 ⟨A1, cM, rfl, o1, hb_w1⟩
  have hx1 := (hx0.later hb_w1).later ((Below.refl _ _).alloc (Nat.le_refl _) (.cells #[.int .i64 (N : Nat), .slice A1 ms.length cM] 26))
  have hm1 := (hm0.later hb_w1).later ((Below.refl _ _).alloc (Nat.le_refl _) (.cells #[.int .i64 (N : Nat), .slice A1 ms.length cM] 26))
  have ho1 := (ho0.later hb_w1).later ((Below.refl _ _).alloc (Nat.le_refl _) (.cells #[.int .i64 (N : Nat), .slice A1 ms.length cM] 26))
  have oM := (o1.later ((Below.refl _ _).alloc (Nat.le_refl _) (.cells #[.int .i64 (N : Nat), .slice A1 ms.length cM] 26)))
  have hg1 := grF_later (grF_later (grF_refl w (some b)) hb_w1) ((Below.refl _ _).alloc (Nat.le_refl _) (.cells #[.int .i64 (N : Nat), .slice A1 ms.length cM] 26))
  have t1 := Two.new w1 (.int .i64 (N : Nat)) (.slice A1 ms.length cM) 26
  have s1 := hb_w1.size
  have hbw := hx0.lt
  clear hx0 hm0 ho0 hsm o1 hb_w1 x0 x1 x2 x3 x4 x5 x6 x7 xf
  go_wp2_with fail
  generalize hWW : w1.alloc (.cells #[.int .i64 (N : Nat), .slice A1 ms.length cM] 26) = W1 at *
  have sW : w.heap.size < W1.heap.size := by rw [← hWW, World.size_alloc]; omega
  clear hWW
  have hbgm : b < w1.heap.size := by omega
  generalize hgm : w1.heap.size = gm at *
  clear hgm
  go_at_call 200
  refine (HFI.out _ _ _ _ oM.row (by omega) (by omega)).mono ?_
  rintro e w2 ⟨⟨i0, y0, rfl, hF0⟩, hb_w2⟩
  have hx2 := hx1.later hb_w2
  have hm2 := hm1.later hb_w2
  have ho2 := ho1.later hb_w2
  have oM2 := oM.later hb_w2
  have hg2 := grF_later hg1 hb_w2
  have t2 := t1.later hb_w2
  have s2 := hb_w2.size
  clear hx1 hm1 ho1 oM hg1 t1 hb_w2
  have HF0 := Lib.hid hF0
  have hI : Hid (OwnsSc w2 B v O ⟨h, (N : Nat), os, fa, go⟩) := Lib.hid ⟨hm2, ho2⟩
  have hX2 := Lib.hid hx2
  have hfa : Hid ((fa + countTo ms 0) % W64 = fa) := Lib.hid (by show (fa + 0) % W64 = fa; rw [Nat.add_zero]; exact Nat.mod_eq_of_lt hf)
  clear hF0 hm2 ho2 hx2 hf
  go_wp2_with fail
  go_loopw [4, 5] (fun iv yv wr => ∃ (p : Nat) (i y : Int) (O1 : Option Addr) (c1 : Nat) (os1 : List Nat), iv = .int .i64 i ∧ yv = .int .i64 y ∧ Hid (FirstP ms true (p : Int) (N : Nat) i y) ∧ p ≤ N ∧ Hid (os1 = recW ms p os) ∧ E8 wr b (.slice v.A h.ws.length v.ca) (.int .i64 h.n) (.slice v.U h.us.length v.cu) (.slice v.V h.l.length v.cv) (.int .i64 (N : Nat)) (.slice O1 os1.length c1) (.int .u64 (((fa + countTo ms p) % W64) : Nat)) (.int .u64 (go : Nat)) ∧ OwnsSc wr B v O1 ⟨h, (N : Nat), os1, ((fa + countTo ms p) % W64), go⟩ ∧ w.grownBy wr (some b) ∧ Two wr gm (.int .i64 (N : Nat)) (.slice A1 ms.length cM) ∧ Own wr w.heap.size A1 ms) (fun iv yv _ => if intOf yv = 0 then ((N : Int) - intOf iv).toNat + 1 else 0)
  case atStart => exact ⟨0, i0, y0, O, co, os, rfl, rfl, HF0.out, Nat.zero_le _, Lib.hid rfl, by rw [hfa.out]; exact hX2.out, by rw [hfa.out]; exact hI.out, hg2, t2, oM2⟩
  case round =>
    clear hg2 t2 oM2 hI hX2
    obtain ⟨p, i, y, O1, c1, os1, rfl, rfl, hF, hpN, eo, hx, m, hg, t, oM⟩ := hrel
    have hsz := hg.size
    have hlt := hx.lt
    have tl := World.block_lt_of_cell? _ _ t.c0
    have hl0 := hlong
    rcases hF.out with ⟨rfl, p1, p2, p3, p4⟩ | ⟨rfl, rfl, p4⟩
    · obtain ⟨j, rfl⟩ : ∃ j : Nat, i = (j : Int) := ⟨i.toNat, by omega⟩
      simp only [Int.toNat_natCast] at p3
      have hskip : ∀ k, p ≤ k → k < j → tb ms k = false := fun k h1 h2 => by
        have := p4 k (by omega) (by omega)
        simpa using this
      have e1 := recW_skip ms os (a := p) (b := j) (by omega) hskip
      have e2 := count_skip (ws := ms) (a := p) (b := j) (by omega) hskip
      have E3 : Hid (putW os1 j false = recW ms (j + 1) os) := Lib.hid (by rw [recW, if_pos p3, e1, eo.out])
      have E4 : countTo ms (j + 1) = countTo ms p + 1 := by rw [countTo, e2, p3]; rfl
      have hR1 : Right (N : Nat) os1 := by rw [eo.out]; exact HRO.out p hpN
      obtain ⟨F, hFF⟩ : ∃ F, Hid ((fa + countTo ms p) % W64 = F) := ⟨_, Lib.hid rfl⟩
      obtain ⟨F', hFF'⟩ : ∃ F', Hid ((fa + countTo ms (j + 1)) % W64 = F') := ⟨_, Lib.hid rfl⟩
      have hadd : IntKind.u64.wrap ((F : Int) + 1) = (F' : Int) := by
        rw [← hFF.out, ← hFF'.out, E4]
        unfold W64
        rw [IntKind.wrap_u64]
        omega
      rw [hFF.out] at hx m
      clear e1 e2 hskip p4 hF p3 E4
      have hne : gm ≠ b := by omega
      have hne2 : b ≠ gm := by omega
      obtain ⟨x0, x1, x2, x3, x4, x5, x6, x7, xf⟩ := id hx
      go_wp2_with fail
      go_at_call 140
      refine (HPU.out _ _ _ _ j m.o.row hR1 p2).mono ?_
      rintro e w3 ⟨A2, c2, rfl, o2, hb_w3⟩
      have hx3 := hx.later hb_w3
      have mh := m.h.later hb_w3
      have hg3 := grF_later hg hb_w3
      have t3 := t.later hb_w3
      have oM3 := oM.later hb_w3
      have s3 := hb_w3.size
      have o3 := o2.mono (B' := B) (by omega)
      clear o2 hb_w3 hx m hg t oM x0 x1 x2 x3 x4 x5 x6 x7 xf
      have hx4 := ((hx3.set4 (.int .i64 (N : Nat))).set5 (.slice A2 (putW os1 j false).length c2)).set6 (.int .u64 (F' : Nat))
      have g4 := grF_set (grF_set (grF_set (grF_refl w3 (some b)) 4 (.int .i64 (N : Nat))) 5 (.slice A2 (putW os1 j false).length c2)) 6 (.int .u64 (F' : Nat))
      have mh4 := ((mh.far (p := ⟨b, 4, none⟩) hb (.int .i64 (N : Nat))).far (p := ⟨b, 5, none⟩) hb (.slice A2 (putW os1 j false).length c2)).far (p := ⟨b, 6, none⟩) hb (.int .u64 (F' : Nat))
      have o4 := ((o3.far (p := ⟨b, 4, none⟩) (.inl hb) (.int .i64 (N : Nat))).far (p := ⟨b, 5, none⟩) (.inl hb) (.slice A2 (putW os1 j false).length c2)).far (p := ⟨b, 6, none⟩) (.inl hb) (.int .u64 (F' : Nat))
      have t4 := t3.grownF g4 (by intro e; injection e with e; exact hne e)
      have oM4 := ((oM3.far (p := ⟨b, 4, none⟩) (.inl hbw) (.int .i64 (N : Nat))).far (p := ⟨b, 5, none⟩) (.inl hbw) (.slice A2 (putW os1 j false).length c2)).far (p := ⟨b, 6, none⟩) (.inl hbw) (.int .u64 (F' : Nat))
      have hg4 := grF_trans hg3 g4
      obtain ⟨x0, x1, x2, x3, x4, x5, x6, x7, xf⟩ := id hx3
      obtain ⟨z0, z1, zf⟩ := id t3
      have tl3 := World.block_lt_of_cell? _ _ t3.c0
      clear hg3 mh o3 oM3
      go_wp2_with fail
      generalize ((w3.setCell ⟨b, 4, none⟩ (.int .i64 (N : Nat))).setCell ⟨b, 5, none⟩ (.slice A2 (putW os1 j false).length c2)).setCell ⟨b, 6, none⟩ (.int .u64 (F' : Nat)) = W4 at *
      clear z0 z1 zf x0 x1 x2 x3 x4 x5 x6 x7 xf
      go_at_call 200
      refine (HFI.out _ _ _ _ oM4.row (by omega) (by omega)).mono ?_
      rintro e w5 ⟨⟨i2, y2, rfl, hF2⟩, hb_w5⟩
      have hx5 := hx4.later hb_w5
      have m5 : OwnsSc w5 B v A2 ⟨h, (N : Nat), (putW os1 j false), F', go⟩ := ⟨mh4.later hb_w5, o4.later hb_w5⟩
      have hg5 := grF_later hg4 hb_w5
      have t5 := t4.later hb_w5
      have oM5 := oM4.later hb_w5
      rw [← hFF'.out] at hx5 m5
      have HX5 := Lib.hid hx5
      have HM5 := Lib.hid m5
      have HF2 := Lib.hid (show FirstP ms true ((j + 1 : Nat) : Int) (N : Nat) i2 y2 by exact_mod_cast hF2)
      have HMS : Hid (∀ m : Nat, m = (if y2 = 0 then ((N : Int) - i2).toNat + 1 else 0) → m < ((N : Int) - (j : Int)).toNat + 1) := Lib.hid fun m hm => by
        rcases hF2 with ⟨q0, q1, q2, _⟩ | ⟨q0, _⟩
        · rw [if_pos q0] at hm; omega
        · rw [if_neg (by omega)] at hm; omega
      have hjN : j + 1 ≤ N := by omega
      clear hx4 mh4 o4 t4 oM4 hg4 hx3 t3 hb_w5 g4 hx5 m5 hF2 tl3 hadd
      go_wp2
      go_roundw
      case rel => exact ⟨j + 1, i2, y2, A2, c2, putW os1 j false, rfl, rfl, HF2, hjN, E3, HX5.out, HM5.out, hg5, t5, oM5⟩
      case measure => exact HMS.out _ rfl
    · have hskip : ∀ k, p ≤ k → k < N → tb ms k = false := fun k h1 h2 => by
        have := p4 k (by omega) (by omega)
        simpa using this
      have e1 := (recW_skip ms os (a := p) (b := N) hpN hskip).trans eo.out.symm
      have e2 := count_skip (ws := ms) (a := p) (b := N) hpN hskip
      have HX : Hid (E8 wr b (.slice v.A h.ws.length v.ca) (.int .i64 h.n) (.slice v.U h.us.length v.cu) (.slice v.V h.l.length v.cv) (.int .i64 (N : Nat)) (.slice O1 (recW ms N os).length c1) (.int .u64 (((fa + countTo ms N) % W64) : Nat)) (.int .u64 (go : Nat))) := Lib.hid (by rw [e1, e2]; exact hx)
      have HM : Hid (OwnsSc wr B v O1 ⟨h, (N : Nat), (recW ms N os), ((fa + countTo ms N) % W64), go⟩) := Lib.hid (by rw [e1, e2]; exact m)
      clear e1 e2 hskip p4 hF hx m t oM
      go_wp2
      go_end0
      exact ⟨rfl, O1, ⟨c1, HX.out⟩, HM.out, hg⟩
theorem NewE.zero {h : Hp} {n : Int} {m : Nat} {bl : Bool} {h' : Hp} {a : Nat} {y : Int} (hE : NewE h n m bl h' a y) (hy : y ≠ 0) : a = 0 := by
  rcases hE with ⟨_, _, e, _⟩ | ⟨_, _, _, e, _⟩ | ⟨_, _, _, _, e⟩ | ⟨_, _, e, _⟩
  · exact e
  · exact e
  · exact e
  · exact absurd e hy
def FreshSa (w : World) (s' : Sc) (a : Nat) (y : Int) (e : Ending) (w' : World) : Prop := ∃ v O c, e = .returned (.tuple #[scV v O c s', .int .u64 (a : Nat), .int .i64 y]) ∧ OwnsSc w' w.heap.size v O s' ∧ Below w.heap.size w w'
def NwE (s : Sc) (n : Int) (mk : Nat) (bl : Bool) (s' : Sc) (a : Nat) (y : Int) : Prop := (¬ OkS s ∧ s' = sc0 ∧ a = 0 ∧ y = 2) ∨ (OkS s ∧ (∃ h', NewE s.h n mk bl h' a y) ∧ y ≠ 0 ∧ s' = s ∧ a = 0) ∨ (OkS s ∧ ∃ h', NewE s.h n mk bl h' a 0 ∧ s' = newSc s h' ∧ y = 0)
theorem NwE.ex (s : Sc) (n : Int) (mk : Nat) (bl : Bool) : ∃ s' a y, NwE s n mk bl s' a y := by
  by_cases hk : OkS s
  · obtain ⟨h', a, y, hE⟩ := NewE.ex s.h n mk bl
    by_cases hy : y = 0
    · subst hy
      exact ⟨_, _, _, .inr (.inr ⟨hk, h', hE, rfl, rfl⟩)⟩
    · exact ⟨_, _, _, .inr (.inl ⟨hk, ⟨h', hE⟩, hy, rfl, hE.zero hy⟩)⟩
  · exact ⟨_, _, _, .inl ⟨hk, rfl, rfl, rfl⟩⟩
section
variable {w : World} {v : Hv} {O : Option Addr} {s : Sc} (co : Nat)
set_option maxHeartbeats 8000000 in
theorem fnew_any (hz : Sizes w) (m : SM w v O s) (hs : Short s.h) (hnil : v.V = none → v.cv = 0) (hfa : s.fa < W64) (n : Int) (mk : Nat) (hmk : mk < W64) (bl : Bool) (s' : Sc) (a : Nat) (y : Int) (hE : NwE s n mk bl s' a y) :
    Calls Tryz.prog 43 #[scV v O co s, .agg #[.int .i64 n, .int .u64 (mk : Nat)], .bool bl] w fun e w' => FreshSa w s' a y e w' := by
  unfold FreshSa
  rcases hE with ⟨hk, rfl, rfl, rfl⟩ | ⟨hk, ⟨h', hN⟩, hy, hss, rfl⟩ | ⟨hk, h', hN, he, rfl⟩
  · have HV := Lib.hid fun (w : World) z m => fview_bad (w := w) (v := v) (O := O) (s := s) co z m hs hk
    clear hk hs
    unfold scV at HV ⊢
    go_enter Tryz.func43, Tryz.ntmps43
    go_wp2_with fail
    go_at_call 123
    refine (HV.out _ (hz.later bX) (m.later bX)).mono ?_
    rintro e w1 ⟨rfl, hb_w1⟩
    obtain ⟨hc_w1, hf_w1⟩ := bcell hb_w1; have hz_w1_w_0 : w.heap.size < w1.heap.size := lY hb_w1.size; have hz_w1_w_1 : w.heap.size + 1 < w1.heap.size := lY hb_w1.size; have hz_w1_w_2 : w.heap.size + 2 < w1.heap.size := lY hb_w1.size; have hs_w1 := hb_w1.size; (try simp only [zZ] at hs_w1)
    have b1 : Below w.heap.size w w1 := bX
    have t0 := (E8.new ((w.alloc (.cells #[.slice v.A s.h.ws.length v.ca, .int .i64 s.h.n, .slice v.U s.h.us.length v.cu, .slice v.V s.h.l.length v.cv, .int .i64 s.n, .slice O s.os.length co, .int .u64 (s.fa : Nat), .int .u64 (s.go : Nat)] 64)).alloc (.cells #[.int .i64 n, .int .u64 (mk : Nat)] 34)) (.slice none 0 0) (.int .i64 0) (.slice none 0 0) (.slice none 0 0) (.int .i64 0) (.slice none 0 0) (.int .u64 0) (.int .u64 0) 64).later hb_w1
    simp only [zA] at t0
    obtain ⟨y0, y1, y2, y3, y4, y5, y6, y7, yf⟩ := id t0
    have ylt := t0.lt
    unfold hv0 sc0 hp0 at *
    simp only at *
    have u0 := (t0.all (.slice none 0 0) (.int .i64 0) (.slice none 0 0) (.slice none 0 0) (.int .i64 0) (.slice none 0 0) (.int .u64 0) (.int .u64 0)).later ((Below.refl _ _).alloc (Nat.le_refl _) (.cells #[.slice none 0 0, .int .i64 0, .slice none 0 0, .slice none 0 0, .int .i64 0, .slice none 0 0, .int .u64 0, .int .u64 0] 184))
    have b2 := (below8 (g := w.heap.size + 1 + 1) b1 (by omega) (.slice none 0 0) (.int .i64 0) (.slice none 0 0) (.slice none 0 0) (.int .i64 0) (.slice none 0 0) (.int .u64 0) (.int .u64 0)).alloc (by rw [size8]; omega) (.cells #[.slice none 0 0, .int .i64 0, .slice none 0 0, .slice none 0 0, .int .i64 0, .slice none 0 0, .int .u64 0, .int .u64 0] 184)
    clear hc_w1 hf_w1
    go_wp2
    exact bodyPost_ret (res_ss3 rfl rfl u0) rfl ⟨hv0, none, 0, rfl, OwnsSc.zero _ _, b2⟩
  · have hss := hss.symm
    subst hss
    have hh := (hN.refused hk.h hy).1
    subst hh
    have fy : (y != (0 : Int)) = true := by simpa using hy
    have HNW := Lib.hid fun (w : World) (v : Hv) hz m hn => znewH_any (w := w) (v := v) (h := s.h) hz m hk.h.lens.1 hk.h.lens.2 hn n mk hmk bl s.h 0 y hN
    unfold FreshHa hpV hpv at HNW
    have HV := Lib.hid fun (w : World) z m => fview_ok (w := w) (v := v) (O := O) (s := s) co z m hk
    have HT := Lib.hid fun (w : World) m => ftwin_any (w := w) (v := v) (O := O) (s := s) co m hk hnil
    clear hk hs hN hy
    unfold scV at HV HT ⊢
    go_enter Tryz.func43, Tryz.ntmps43
    go_wp2_with fail
    go_at_call 123
    refine (HV.out _ (hz.later bX) (m.later bX)).mono ?_
    rintro e w1 ⟨rfl, hb_w1⟩
    obtain ⟨hc_w1, hf_w1⟩ := bcell hb_w1; have hz_w1_w_0 : w.heap.size < w1.heap.size := lY hb_w1.size; have hz_w1_w_1 : w.heap.size + 1 < w1.heap.size := lY hb_w1.size; have hz_w1_w_2 : w.heap.size + 2 < w1.heap.size := lY hb_w1.size; have hs_w1 := hb_w1.size; (try simp only [zZ] at hs_w1)
    have b1 : Below w.heap.size w w1 := bX
    have t0 := (E8.new ((w.alloc (.cells #[.slice v.A s.h.ws.length v.ca, .int .i64 s.h.n, .slice v.U s.h.us.length v.cu, .slice v.V s.h.l.length v.cv, .int .i64 s.n, .slice O s.os.length co, .int .u64 (s.fa : Nat), .int .u64 (s.go : Nat)] 64)).alloc (.cells #[.int .i64 n, .int .u64 (mk : Nat)] 34)) (.slice none 0 0) (.int .i64 0) (.slice none 0 0) (.slice none 0 0) (.int .i64 0) (.slice none 0 0) (.int .u64 0) (.int .u64 0) 64).later hb_w1
    simp only [zA] at t0
    have t1 := E8.new w1 (.slice v.A s.h.ws.length v.ca) (.int .i64 s.h.n) (.slice v.U s.h.us.length v.cu) (.slice v.V s.h.l.length v.cv) (.int .i64 s.n) (.slice O s.os.length co) (.int .u64 (s.fa : Nat)) (.int .u64 (s.go : Nat)) 184
    have t0 := t0.later ((Below.refl _ _).alloc (Nat.le_refl _) (.cells #[.slice v.A s.h.ws.length v.ca, .int .i64 s.h.n, .slice v.U s.h.us.length v.cu, .slice v.V s.h.l.length v.cv, .int .i64 s.n, .slice O s.os.length co, .int .u64 (s.fa : Nat), .int .u64 (s.go : Nat)] 184))
    have p1 := ((Two.new1 w (.cells #[.slice v.A s.h.ws.length v.ca, .int .i64 s.h.n, .slice v.U s.h.us.length v.cu, .slice v.V s.h.l.length v.cv, .int .i64 s.n, .slice O s.os.length co, .int .u64 (s.fa : Nat), .int .u64 (s.go : Nat)] 64) (.int .i64 n) (.int .u64 (mk : Nat)) 34).later ((Below.refl _ _).alloc (Nat.le_refl _) (.cells #[.slice none 0 0, .int .i64 0, .slice none 0 0, .slice none 0 0, .int .i64 0, .slice none 0 0, .int .u64 0, .int .u64 0] 64))).later hb_w1
    have p1 := p1.later ((Below.refl _ _).alloc (Nat.le_refl _) (.cells #[.slice v.A s.h.ws.length v.ca, .int .i64 s.h.n, .slice v.U s.h.us.length v.cu, .slice v.V s.h.l.length v.cv, .int .i64 s.n, .slice O s.os.length co, .int .u64 (s.fa : Nat), .int .u64 (s.go : Nat)] 184))
    have zt := t0.lt
    clear hc_w1 hf_w1
    go_wp2_with fail
    go_at_call 124
    refine (HT.out _ ((m.later b1).later bX)).mono ?_
    rintro e w2 ⟨v2, O2, c2, rfl, o2, hb_w2⟩
    have t0 := t0.later hb_w2
    have t1 := t1.later hb_w2
    have s2 := hb_w2.size
    simp only [zA] at o2 s2 zt
    have b2 : Below w.heap.size w w2 := bX
    have p1 := p1.later hb_w2
    obtain ⟨p0, p1_, pf⟩ := id p1
    have sw := b1.size
    have t1' := t1.all (.slice v2.A s.h.ws.length v2.ca) (.int .i64 s.h.n) (.slice v2.U s.h.us.length v2.cu) (.slice v2.V s.h.l.length v2.cv) (.int .i64 s.n) (.slice O2 s.os.length c2) (.int .u64 (s.fa : Nat)) (.int .u64 (s.go : Nat))
    have t0' := t0.over (g := w1.heap.size) (by omega) (.slice v2.A s.h.ws.length v2.ca) (.int .i64 s.h.n) (.slice v2.U s.h.us.length v2.cu) (.slice v2.V s.h.l.length v2.cv) (.int .i64 s.n) (.slice O2 s.os.length c2) (.int .u64 (s.fa : Nat)) (.int .u64 (s.go : Nat))
    have o2' := o2.over8 (g := w1.heap.size) (by omega) (.slice v2.A s.h.ws.length v2.ca) (.int .i64 s.h.n) (.slice v2.U s.h.us.length v2.cu) (.slice v2.V s.h.l.length v2.cv) (.int .i64 s.n) (.slice O2 s.os.length c2) (.int .u64 (s.fa : Nat)) (.int .u64 (s.go : Nat))
    have b2' := below8 (g := w1.heap.size) b2 (by omega) (.slice v2.A s.h.ws.length v2.ca) (.int .i64 s.h.n) (.slice v2.U s.h.us.length v2.cu) (.slice v2.V s.h.l.length v2.cv) (.int .i64 s.n) (.slice O2 s.os.length c2) (.int .u64 (s.fa : Nat)) (.int .u64 (s.go : Nat))
    obtain ⟨x0, x1, x2, x3, x4, x5, x6, x7, xf⟩ := id t1
    obtain ⟨y0, y1, y2, y3, y4, y5, y6, y7, yf⟩ := id t0
    have p1' := p1
    have p1' := p1'.off1 (p := ⟨w1.heap.size, 0, none⟩) (by show w1.heap.size ≠ w.heap.size + 1; omega) (.slice v2.A s.h.ws.length v2.ca)
    have p1' := p1'.off1 (p := ⟨w1.heap.size, 1, none⟩) (by show w1.heap.size ≠ w.heap.size + 1; omega) (.int .i64 s.h.n)
    have p1' := p1'.off1 (p := ⟨w1.heap.size, 2, none⟩) (by show w1.heap.size ≠ w.heap.size + 1; omega) (.slice v2.U s.h.us.length v2.cu)
    have p1' := p1'.off1 (p := ⟨w1.heap.size, 3, none⟩) (by show w1.heap.size ≠ w.heap.size + 1; omega) (.slice v2.V s.h.l.length v2.cv)
    have p1' := p1'.off1 (p := ⟨w1.heap.size, 4, none⟩) (by show w1.heap.size ≠ w.heap.size + 1; omega) (.int .i64 s.n)
    have p1' := p1'.off1 (p := ⟨w1.heap.size, 5, none⟩) (by show w1.heap.size ≠ w.heap.size + 1; omega) (.slice O2 s.os.length c2)
    have p1' := p1'.off1 (p := ⟨w1.heap.size, 6, none⟩) (by show w1.heap.size ≠ w.heap.size + 1; omega) (.int .u64 (s.fa : Nat))
    have p1' := p1'.off1 (p := ⟨w1.heap.size, 7, none⟩) (by show w1.heap.size ≠ w.heap.size + 1; omega) (.int .u64 (s.go : Nat))
    go_wp2_with fail
    generalize hW : ((((((((w2.setCell ⟨w1.heap.size, 0, none⟩ (.slice v2.A s.h.ws.length v2.ca)).setCell ⟨w1.heap.size, 1, none⟩ (.int .i64 s.h.n)).setCell ⟨w1.heap.size, 2, none⟩ (.slice v2.U s.h.us.length v2.cu)).setCell ⟨w1.heap.size, 3, none⟩ (.slice v2.V s.h.l.length v2.cv)).setCell ⟨w1.heap.size, 4, none⟩ (.int .i64 s.n)).setCell ⟨w1.heap.size, 5, none⟩ (.slice O2 s.os.length c2)).setCell ⟨w1.heap.size, 6, none⟩ (.int .u64 (s.fa : Nat))).setCell ⟨w1.heap.size, 7, none⟩ (.int .u64 (s.go : Nat))) = W at *
    have sW : W.heap.size = w2.heap.size := by rw [← hW]; exact size8 _ _ _ _ _ _ _ _ _ _
    clear hW t0 t1 p1 p0 p1_ pf o2 b2 hb_w2 x0 x1 x2 x3 x4 x5 x6 x7 xf y0 y1 y2 y3 y4 y5 y6 y7 yf
    obtain ⟨x0, x1, x2, x3, x4, x5, x6, x7, xf⟩ := id t1'
    obtain ⟨p0, p1_, pf⟩ := id p1'
    have oN := o2'.h.nil
    have oM := o2'.h.hm
    go_wp2_with fail
    go_at_call 15
    refine (HNW.out _ _ (hz.later b2') oM oN).mono ?_
    rintro e w3 ⟨v3, rfl, o3, hb_w3⟩
    have s3 := hb_w3.size
    clear p0 p1_ pf p1' oN oM x0 x1 x2 x3 x4 x5 x6 x7 xf
    have t0' := (t0'.later hb_w3).later ((Below.refl _ _).alloc (Nat.le_refl _) (.cells #[.slice v3.A s.h.ws.length v3.ca, .int .i64 s.h.n, .slice v3.U s.h.us.length v3.cu, .slice v3.V s.h.l.length v3.cv] 31))
    have t1' := (t1'.later hb_w3).later ((Below.refl _ _).alloc (Nat.le_refl _) (.cells #[.slice v3.A s.h.ws.length v3.ca, .int .i64 s.h.n, .slice v3.U s.h.us.length v3.cu, .slice v3.V s.h.l.length v3.cv] 31))
    have o2' := (o2'.later hb_w3).later ((Below.refl _ _).alloc (Nat.le_refl _) (.cells #[.slice v3.A s.h.ws.length v3.ca, .int .i64 s.h.n, .slice v3.U s.h.us.length v3.cu, .slice v3.V s.h.l.length v3.cv] 31))
    have b2' := (b2'.trans (hb_w3.mono b2'.size)).alloc (by have := b2'.size; omega) (.cells #[.slice v3.A s.h.ws.length v3.ca, .int .i64 s.h.n, .slice v3.U s.h.us.length v3.cu, .slice v3.V s.h.l.length v3.cv] 31)
    have q4 := B4.new w3 (.slice v3.A s.h.ws.length v3.ca) (.int .i64 s.h.n) (.slice v3.U s.h.us.length v3.cu) (.slice v3.V s.h.l.length v3.cv) 31
    obtain ⟨x0, x1, x2, x3, x4, x5, x6, x7, xf⟩ := id t1'
    obtain ⟨y0, y1, y2, y3, y4, y5, y6, y7, yf⟩ := id t0'
    go_wp2
    exact bodyPost_ret (res_ss3 rfl rfl (t0'.all (.slice v2.A s.h.ws.length v2.ca) (.int .i64 s.h.n) (.slice v2.U s.h.us.length v2.cu) (.slice v2.V s.h.l.length v2.cv) (.int .i64 s.n) (.slice O2 s.os.length c2) (.int .u64 (s.fa : Nat)) (.int .u64 (s.go : Nat)))) rfl ⟨v2, O2, c2, rfl, (o2'.over8 (g := w.heap.size + 1 + 1) (by omega) (.slice v2.A s.h.ws.length v2.ca) (.int .i64 s.h.n) (.slice v2.U s.h.us.length v2.cu) (.slice v2.V s.h.l.length v2.cv) (.int .i64 s.n) (.slice O2 s.os.length c2) (.int .u64 (s.fa : Nat)) (.int .u64 (s.go : Nat))).mono (by omega), below8 (g := w.heap.size + 1 + 1) b2' (by omega) (.slice v2.A s.h.ws.length v2.ca) (.int .i64 s.h.n) (.slice v2.U s.h.us.length v2.cu) (.slice v2.V s.h.l.length v2.cv) (.int .i64 s.n) (.slice O2 s.os.length c2) (.int .u64 (s.fa : Nat)) (.int .u64 (s.go : Nat))⟩
  · have HNW := Lib.hid fun (w : World) (v : Hv) hz m hn => znewH_any (w := w) (v := v) (h := s.h) hz m hk.h.lens.1 hk.h.lens.2 hn n mk hmk bl h' a 0 hN
    unfold FreshHa hpV hpv at HNW
    have HV := Lib.hid fun (w : World) z m => fview_ok (w := w) (v := v) (O := O) (s := s) co z m hk
    have HT := Lib.hid fun (w : World) m => ftwin_any (w := w) (v := v) (O := O) (s := s) co m hk hnil
    have hk' := (hN.made).2.1
    have hnn := hN.n hk.h
    have HRC := Lib.hid fun (w : World) (b B : Nat) (v : Hv) (O : Option Addr) (co : Nat) hx m hb hB => frec_any (w := w) (b := b) (B := B) (v := v) (O := O) (co := co) (s := ⟨h', s.n, s.os, s.fa, s.go⟩) hx m hb hB hk.o (by show Right s.n h'.us; rw [hk.n, ← hnn]; exact hk'.framed.pages) (by show s.n = h'.n; rw [hnn]; exact hk.n) hfa s' he
    simp only at HRC
    clear hk hs hN he hk' hnn
    unfold scV at HV HT ⊢
    go_enter Tryz.func43, Tryz.ntmps43
    go_wp2_with fail
    go_at_call 123
    refine (HV.out _ (hz.later bX) (m.later bX)).mono ?_
    rintro e w1 ⟨rfl, hb_w1⟩
    obtain ⟨hc_w1, hf_w1⟩ := bcell hb_w1; have hz_w1_w_0 : w.heap.size < w1.heap.size := lY hb_w1.size; have hz_w1_w_1 : w.heap.size + 1 < w1.heap.size := lY hb_w1.size; have hz_w1_w_2 : w.heap.size + 2 < w1.heap.size := lY hb_w1.size; have hs_w1 := hb_w1.size; (try simp only [zZ] at hs_w1)
    have b1 : Below w.heap.size w w1 := bX
    have t0 := (E8.new ((w.alloc (.cells #[.slice v.A s.h.ws.length v.ca, .int .i64 s.h.n, .slice v.U s.h.us.length v.cu, .slice v.V s.h.l.length v.cv, .int .i64 s.n, .slice O s.os.length co, .int .u64 (s.fa : Nat), .int .u64 (s.go : Nat)] 64)).alloc (.cells #[.int .i64 n, .int .u64 (mk : Nat)] 34)) (.slice none 0 0) (.int .i64 0) (.slice none 0 0) (.slice none 0 0) (.int .i64 0) (.slice none 0 0) (.int .u64 0) (.int .u64 0) 64).later hb_w1
    simp only [zA] at t0
    have t1 := E8.new w1 (.slice v.A s.h.ws.length v.ca) (.int .i64 s.h.n) (.slice v.U s.h.us.length v.cu) (.slice v.V s.h.l.length v.cv) (.int .i64 s.n) (.slice O s.os.length co) (.int .u64 (s.fa : Nat)) (.int .u64 (s.go : Nat)) 184
    have t0 := t0.later ((Below.refl _ _).alloc (Nat.le_refl _) (.cells #[.slice v.A s.h.ws.length v.ca, .int .i64 s.h.n, .slice v.U s.h.us.length v.cu, .slice v.V s.h.l.length v.cv, .int .i64 s.n, .slice O s.os.length co, .int .u64 (s.fa : Nat), .int .u64 (s.go : Nat)] 184))
    have p1 := ((Two.new1 w (.cells #[.slice v.A s.h.ws.length v.ca, .int .i64 s.h.n, .slice v.U s.h.us.length v.cu, .slice v.V s.h.l.length v.cv, .int .i64 s.n, .slice O s.os.length co, .int .u64 (s.fa : Nat), .int .u64 (s.go : Nat)] 64) (.int .i64 n) (.int .u64 (mk : Nat)) 34).later ((Below.refl _ _).alloc (Nat.le_refl _) (.cells #[.slice none 0 0, .int .i64 0, .slice none 0 0, .slice none 0 0, .int .i64 0, .slice none 0 0, .int .u64 0, .int .u64 0] 64))).later hb_w1
    have p1 := p1.later ((Below.refl _ _).alloc (Nat.le_refl _) (.cells #[.slice v.A s.h.ws.length v.ca, .int .i64 s.h.n, .slice v.U s.h.us.length v.cu, .slice v.V s.h.l.length v.cv, .int .i64 s.n, .slice O s.os.length co, .int .u64 (s.fa : Nat), .int .u64 (s.go : Nat)] 184))
    have zt := t0.lt
    clear hc_w1 hf_w1
    go_wp2_with fail
    go_at_call 124
    refine (HT.out _ ((m.later b1).later bX)).mono ?_
    rintro e w2 ⟨v2, O2, c2, rfl, o2, hb_w2⟩
    have t0 := t0.later hb_w2
    have t1 := t1.later hb_w2
    have s2 := hb_w2.size
    simp only [zA] at o2 s2 zt
    have b2 : Below w.heap.size w w2 := bX
    have p1 := p1.later hb_w2
    obtain ⟨p0, p1_, pf⟩ := id p1
    have sw := b1.size
    have t1' := t1.all (.slice v2.A s.h.ws.length v2.ca) (.int .i64 s.h.n) (.slice v2.U s.h.us.length v2.cu) (.slice v2.V s.h.l.length v2.cv) (.int .i64 s.n) (.slice O2 s.os.length c2) (.int .u64 (s.fa : Nat)) (.int .u64 (s.go : Nat))
    have t0' := t0.over (g := w1.heap.size) (by omega) (.slice v2.A s.h.ws.length v2.ca) (.int .i64 s.h.n) (.slice v2.U s.h.us.length v2.cu) (.slice v2.V s.h.l.length v2.cv) (.int .i64 s.n) (.slice O2 s.os.length c2) (.int .u64 (s.fa : Nat)) (.int .u64 (s.go : Nat))
    have o2' := o2.over8 (g := w1.heap.size) (by omega) (.slice v2.A s.h.ws.length v2.ca) (.int .i64 s.h.n) (.slice v2.U s.h.us.length v2.cu) (.slice v2.V s.h.l.length v2.cv) (.int .i64 s.n) (.slice O2 s.os.length c2) (.int .u64 (s.fa : Nat)) (.int .u64 (s.go : Nat))
    have b2' := below8 (g := w1.heap.size) b2 (by omega) (.slice v2.A s.h.ws.length v2.ca) (.int .i64 s.h.n) (.slice v2.U s.h.us.length v2.cu) (.slice v2.V s.h.l.length v2.cv) (.int .i64 s.n) (.slice O2 s.os.length c2) (.int .u64 (s.fa : Nat)) (.int .u64 (s.go : Nat))
    obtain ⟨x0, x1, x2, x3, x4, x5, x6, x7, xf⟩ := id t1
    obtain ⟨y0, y1, y2, y3, y4, y5, y6, y7, yf⟩ := id t0
    have p1' := p1
    have p1' := p1'.off1 (p := ⟨w1.heap.size, 0, none⟩) (by show w1.heap.size ≠ w.heap.size + 1; omega) (.slice v2.A s.h.ws.length v2.ca)
    have p1' := p1'.off1 (p := ⟨w1.heap.size, 1, none⟩) (by show w1.heap.size ≠ w.heap.size + 1; omega) (.int .i64 s.h.n)
    have p1' := p1'.off1 (p := ⟨w1.heap.size, 2, none⟩) (by show w1.heap.size ≠ w.heap.size + 1; omega) (.slice v2.U s.h.us.length v2.cu)
    have p1' := p1'.off1 (p := ⟨w1.heap.size, 3, none⟩) (by show w1.heap.size ≠ w.heap.size + 1; omega) (.slice v2.V s.h.l.length v2.cv)
    have p1' := p1'.off1 (p := ⟨w1.heap.size, 4, none⟩) (by show w1.heap.size ≠ w.heap.size + 1; omega) (.int .i64 s.n)
    have p1' := p1'.off1 (p := ⟨w1.heap.size, 5, none⟩) (by show w1.heap.size ≠ w.heap.size + 1; omega) (.slice O2 s.os.length c2)
    have p1' := p1'.off1 (p := ⟨w1.heap.size, 6, none⟩) (by show w1.heap.size ≠ w.heap.size + 1; omega) (.int .u64 (s.fa : Nat))
    have p1' := p1'.off1 (p := ⟨w1.heap.size, 7, none⟩) (by show w1.heap.size ≠ w.heap.size + 1; omega) (.int .u64 (s.go : Nat))
    go_wp2_with fail
    generalize hW : ((((((((w2.setCell ⟨w1.heap.size, 0, none⟩ (.slice v2.A s.h.ws.length v2.ca)).setCell ⟨w1.heap.size, 1, none⟩ (.int .i64 s.h.n)).setCell ⟨w1.heap.size, 2, none⟩ (.slice v2.U s.h.us.length v2.cu)).setCell ⟨w1.heap.size, 3, none⟩ (.slice v2.V s.h.l.length v2.cv)).setCell ⟨w1.heap.size, 4, none⟩ (.int .i64 s.n)).setCell ⟨w1.heap.size, 5, none⟩ (.slice O2 s.os.length c2)).setCell ⟨w1.heap.size, 6, none⟩ (.int .u64 (s.fa : Nat))).setCell ⟨w1.heap.size, 7, none⟩ (.int .u64 (s.go : Nat))) = W at *
    have sW : W.heap.size = w2.heap.size := by rw [← hW]; exact size8 _ _ _ _ _ _ _ _ _ _
    clear hW t0 t1 p1 p0 p1_ pf o2 b2 hb_w2 x0 x1 x2 x3 x4 x5 x6 x7 xf y0 y1 y2 y3 y4 y5 y6 y7 yf
    obtain ⟨x0, x1, x2, x3, x4, x5, x6, x7, xf⟩ := id t1'
    obtain ⟨p0, p1_, pf⟩ := id p1'
    have oN := o2'.h.nil
    have oM := o2'.h.hm
    go_wp2_with fail
    go_at_call 15
    refine (HNW.out _ _ (hz.later b2') oM oN).mono ?_
    rintro e w3 ⟨v3, rfl, o3, hb_w3⟩
    have s3 := hb_w3.size
    clear p0 p1_ pf p1' oN oM x0 x1 x2 x3 x4 x5 x6 x7 xf
    have t0' := (t0'.later hb_w3).later ((Below.refl _ _).alloc (Nat.le_refl _) (.cells #[.slice v3.A h'.ws.length v3.ca, .int .i64 h'.n, .slice v3.U h'.us.length v3.cu, .slice v3.V h'.l.length v3.cv] 31))
    have t1' := (t1'.later hb_w3).later ((Below.refl _ _).alloc (Nat.le_refl _) (.cells #[.slice v3.A h'.ws.length v3.ca, .int .i64 h'.n, .slice v3.U h'.us.length v3.cu, .slice v3.V h'.l.length v3.cv] 31))
    have o2' := (o2'.later hb_w3).later ((Below.refl _ _).alloc (Nat.le_refl _) (.cells #[.slice v3.A h'.ws.length v3.ca, .int .i64 h'.n, .slice v3.U h'.us.length v3.cu, .slice v3.V h'.l.length v3.cv] 31))
    have b2' := (b2'.trans (hb_w3.mono b2'.size)).alloc (by have := b2'.size; omega) (.cells #[.slice v3.A h'.ws.length v3.ca, .int .i64 h'.n, .slice v3.U h'.us.length v3.cu, .slice v3.V h'.l.length v3.cv] 31)
    have q4 := B4.new w3 (.slice v3.A h'.ws.length v3.ca) (.int .i64 h'.n) (.slice v3.U h'.us.length v3.cu) (.slice v3.V h'.l.length v3.cv) 31
    obtain ⟨x0, x1, x2, x3, x4, x5, x6, x7, xf⟩ := id t1'
    obtain ⟨q0, q1, q2, q3, _, _, _, _⟩ := id q4
    have zq := q4.lt
    have oo := o2'.o
    have o4 := o3.later ((Below.refl _ _).alloc (Nat.le_refl _) (.cells #[.slice v3.A h'.ws.length v3.ca, .int .i64 h'.n, .slice v3.U h'.us.length v3.cu, .slice v3.V h'.l.length v3.cv] 31))
    have t2 := (((t1'.set0 (.slice v3.A h'.ws.length v3.ca)).set1 (.int .i64 h'.n)).set2 (.slice v3.U h'.us.length v3.cu)).set3 (.slice v3.V h'.l.length v3.cv)
    have t0' := t0'.far (p := ⟨w1.heap.size, 0, none⟩) (by show w1.heap.size ≠ w.heap.size + 1 + 1; omega) (.slice v3.A h'.ws.length v3.ca)
    have t0' := t0'.far (p := ⟨w1.heap.size, 1, none⟩) (by show w1.heap.size ≠ w.heap.size + 1 + 1; omega) (.int .i64 h'.n)
    have t0' := t0'.far (p := ⟨w1.heap.size, 2, none⟩) (by show w1.heap.size ≠ w.heap.size + 1 + 1; omega) (.slice v3.U h'.us.length v3.cu)
    have t0' := t0'.far (p := ⟨w1.heap.size, 3, none⟩) (by show w1.heap.size ≠ w.heap.size + 1 + 1; omega) (.slice v3.V h'.l.length v3.cv)
    have o4 := o4.far (p := ⟨w1.heap.size, 0, none⟩) (by show w1.heap.size < W.heap.size; omega) (.slice v3.A h'.ws.length v3.ca)
    have o4 := o4.far (p := ⟨w1.heap.size, 1, none⟩) (by show w1.heap.size < W.heap.size; omega) (.int .i64 h'.n)
    have o4 := o4.far (p := ⟨w1.heap.size, 2, none⟩) (by show w1.heap.size < W.heap.size; omega) (.slice v3.U h'.us.length v3.cu)
    have o4 := o4.far (p := ⟨w1.heap.size, 3, none⟩) (by show w1.heap.size < W.heap.size; omega) (.slice v3.V h'.l.length v3.cv)
    have oo := oo.far (p := ⟨w1.heap.size, 0, none⟩) (.inl (by show w1.heap.size < w1.heap.size + 1; omega)) (.slice v3.A h'.ws.length v3.ca)
    have oo := oo.far (p := ⟨w1.heap.size, 1, none⟩) (.inl (by show w1.heap.size < w1.heap.size + 1; omega)) (.int .i64 h'.n)
    have oo := oo.far (p := ⟨w1.heap.size, 2, none⟩) (.inl (by show w1.heap.size < w1.heap.size + 1; omega)) (.slice v3.U h'.us.length v3.cu)
    have oo := oo.far (p := ⟨w1.heap.size, 3, none⟩) (.inl (by show w1.heap.size < w1.heap.size + 1; omega)) (.slice v3.V h'.l.length v3.cv)
    have b2' := b2'.setCell (p := ⟨w1.heap.size, 0, none⟩) (by show w.heap.size ≤ w1.heap.size; omega) (.slice v3.A h'.ws.length v3.ca)
    have b2' := b2'.setCell (p := ⟨w1.heap.size, 1, none⟩) (by show w.heap.size ≤ w1.heap.size; omega) (.int .i64 h'.n)
    have b2' := b2'.setCell (p := ⟨w1.heap.size, 2, none⟩) (by show w.heap.size ≤ w1.heap.size; omega) (.slice v3.U h'.us.length v3.cu)
    have b2' := b2'.setCell (p := ⟨w1.heap.size, 3, none⟩) (by show w.heap.size ≤ w1.heap.size; omega) (.slice v3.V h'.l.length v3.cv)
    go_wp2_with fail
    generalize hW4 : ((((w3.alloc (.cells #[.slice v3.A h'.ws.length v3.ca, .int .i64 h'.n, .slice v3.U h'.us.length v3.cu, .slice v3.V h'.l.length v3.cv] 31)).setCell ⟨w1.heap.size, 0, none⟩ (.slice v3.A h'.ws.length v3.ca)).setCell ⟨w1.heap.size, 1, none⟩ (.int .i64 h'.n)).setCell ⟨w1.heap.size, 2, none⟩ (.slice v3.U h'.us.length v3.cu)).setCell ⟨w1.heap.size, 3, none⟩ (.slice v3.V h'.l.length v3.cv) = W4 at *
    have sW4 : W4.heap.size = w3.heap.size + 1 := by rw [← hW4]; simp only [zS, zA]
    clear hW4 q4 q0 q1 q2 q3 x0 x1 x2 x3 x4 x5 x6 x7 xf
    go_at_call 125
    refine (HRC.out _ _ (w1.heap.size + 1) _ _ _ t2 ⟨o4.mono (by omega), oo⟩ (by omega) (by omega)).mono ?_
    rintro e w5 ⟨O5, c5, rfl, t5, o5, hg5⟩
    have s5 := hg5.size
    have t6 := t0'.grown hg5 (by intro e; injection e with e; omega)
    have b6 := b2'.grown hg5 (by omega) (fun k hk => by injection hk with hk; omega)
    obtain ⟨x0, x1, x2, x3, x4, x5, x6, x7, xf⟩ := id t5
    obtain ⟨y0, y1, y2, y3, y4, y5, y6, y7, yf⟩ := id t6
    go_wp2
    exact bodyPost_ret (res_ss3 rfl rfl (t6.all (.slice v3.A s'.h.ws.length v3.ca) (.int .i64 s'.h.n) (.slice v3.U s'.h.us.length v3.cu) (.slice v3.V s'.h.l.length v3.cv) (.int .i64 s'.n) (.slice O5 s'.os.length c5) (.int .u64 (s'.fa : Nat)) (.int .u64 (s'.go : Nat)))) rfl ⟨v3, O5, c5, rfl, (o5.over8 (g := w.heap.size + 1 + 1) (by omega) (.slice v3.A s'.h.ws.length v3.ca) (.int .i64 s'.h.n) (.slice v3.U s'.h.us.length v3.cu) (.slice v3.V s'.h.l.length v3.cv) (.int .i64 s'.n) (.slice O5 s'.os.length c5) (.int .u64 (s'.fa : Nat)) (.int .u64 (s'.go : Nat))).mono (by omega), below8 (g := w.heap.size + 1 + 1) b6 (by omega) (.slice v3.A s'.h.ws.length v3.ca) (.int .i64 s'.h.n) (.slice v3.U s'.h.us.length v3.cu) (.slice v3.V s'.h.l.length v3.cv) (.int .i64 s'.n) (.slice O5 s'.os.length c5) (.int .u64 (s'.fa : Nat)) (.int .u64 (s'.go : Nat))⟩
end
set_option maxHeartbeats 8000000 in
theorem flives_gen {h0 h1 : Hp} {s2 s3 s4 s5 s6 : Sc} {a1 a4 : Nat} (k1 : OkH h1) (k0 : OkH h0) (e1 : MakE 4 h0 0) (e2 : NewE h0 0 0 false h1 a1 0) (e3 : MkS h1 s2 0) (e4 : RelE s2 9 s3 2 0) (e5 : TheE s3 2 0 0) (e6 : NwE s3 20 0 false s4 a4 0) (e7 : RunE s3 [2] 0) (e8 : KeeE s3 0 s5 0 0) (e9 : RelE s3 (-1) s6 0 1) (k2 : OkS s2) (k3 : OkS s3) (k4 : OkS s4) (f3 : s3.fa < W64) (f4 : s4.fa = 2)
    (w : World) (hz : Sizes w) : Calls Tryz.prog 51 #[] w fun e w' => e = .returned (.bool true) ∧ Below w.heap.size w w' := by
  have H1 : Hid (∀ (W : World), Calls Tryz.prog 17 #[.int .i64 4] W fun e W' => ∃ v', e = .returned (.tuple #[hpV v' h0, .int .i64 0]) ∧ OwnsH W' W.heap.size v' h0 ∧ Below W.heap.size W W') := Lib.hid fun W => zmakeH_any W 4 h0 0 e1
  have H2 := Lib.hid fun (W : World) (v : Hv) z m n => znewH_any (w := W) (v := v) (h := h0) z m k0.lens.1 k0.lens.2 n 0 0 (by unfold W64; omega) false h1 a1 0 e2
  have H3 := Lib.hid fun (W : World) (v : Hv) z m n => fmake_any (w := W) (v := v) (h := h1) z m k1.short n s2 0 e3
  have H4 := Lib.hid fun (W : World) (v : Hv) (O : Option Addr) (c : Nat) z m n => frelease_any (w := W) (v := v) (O := O) (s := s2) c z m k2.h.short n 9 (by omega) s3 2 0 e4
  have H5 := Lib.hid fun (W : World) (v : Hv) (O : Option Addr) (c : Nat) z m n => fthere_any (w := W) (v := v) (O := O) (s := s3) c z m k3.h.short n 2 0 0 e5
  have H6 := Lib.hid fun (W : World) (v : Hv) (O : Option Addr) (c : Nat) z m n => fnew_any (w := W) (v := v) (O := O) (s := s3) c z m k3.h.short n f3 20 0 (by unfold W64; omega) false s4 a4 0 e6
  have H7 := Lib.hid fun (W : World) (v : Hv) (O : Option Addr) (c : Nat) z m => frunsX_any (w := W) (v := v) (O := O) (s := s3) c z m k3.h.short [2] 0 e7
  have H8 := Lib.hid fun (W : World) (v : Hv) (O : Option Addr) (c : Nat) z m n => fkeep_any (w := W) (v := v) (O := O) (s := s3) c z m k3.h.short n 0 (by omega) s5 0 0 e8
  have H9 := Lib.hid fun (W : World) (v : Hv) (O : Option Addr) (c : Nat) z m n => frelease_any (w := W) (v := v) (O := O) (s := s3) c z m k3.h.short n (-1) (by omega) s6 0 1 e9
  have H10 := Lib.hid fun (W : World) (v : Hv) (O : Option Addr) (c : Nat) z m => fcheck_any (w := W) (v := v) (O := O) (s := s4) c z m k4.h.short 0 (.inl ⟨k4, rfl⟩)
  have HF4 := Lib.hid f4
  clear e1 e2 e3 e4 e5 e6 e7 e8 e9 k0 k1 k2 k3 k4 f3 f4
  unfold FreshHa at H2
  unfold FreshSi at H4 H8 H9
  unfold FreshSa at H6
  unfold hpV hpv at H1 H2 H3
  unfold scV at H3 H4 H5 H6 H7 H8 H9 H10
  skip
  go_enter Tryz.func51, Tryz.ntmps51
  go_wp2_with fail
  go_at_call 17
  refine (H1.out _).mono ?_
  rintro e w1 ⟨v1, rfl, o1, hb_w1⟩
  obtain ⟨hc_w1, hf_w1⟩ := bcell hb_w1; have hs_w1 := hb_w1.size; (try simp only [zZ] at hs_w1)
  have s1 := hb_w1.size
  have m1 := WB.new o1 s1 31
  have B1 : Below w.heap.size w (w1.alloc (.cells #[.slice v1.A h0.ws.length v1.ca, .int .i64 h0.n, .slice v1.U h0.us.length v1.cu, .slice v1.V h0.l.length v1.cv] 31)) := hb_w1.alloc s1 _
  obtain ⟨c0, c1, c2, c3, f0, f1, f2, f3⟩ := id m1.box
  clear hc_w1 hf_w1 o1
  go_wp2_with fail
  go_at_call 15
  refine (H2.out _ _ (hz.later (by exact B1)) (by exact m1.hm) m1.owns.nil).mono ?_
  rintro e w2 ⟨v2, rfl, o2, hb_w2⟩
  clear c0 c1 c2 c3 f0 f1 f2 f3
  have x2 := m1.box.later hb_w2
  have l1 := m1.lt
  have q2 := B1.size
  have m2 := WB.put x2 m1.le o2 l1 q2
  have B2 := below_put B1 hb_w2 q2 m1.le (.slice v2.A h1.ws.length v2.ca) (.int .i64 h1.n) (.slice v2.U h1.us.length v2.cu) (.slice v2.V h1.l.length v2.cv)
  obtain ⟨c0, c1, c2, c3, f0, f1, f2, f3⟩ := id x2
  clear m1 B1 x2 o2
  go_wp2_with fail
  generalize (((w2.setCell ⟨w1.heap.size, 0, none⟩ (.slice v2.A h1.ws.length v2.ca)).setCell ⟨w1.heap.size, 1, none⟩ (.int .i64 h1.n)).setCell ⟨w1.heap.size, 2, none⟩ (.slice v2.U h1.us.length v2.cu)).setCell ⟨w1.heap.size, 3, none⟩ (.slice v2.V h1.l.length v2.cv) = W2 at *
  clear c0 c1 c2 c3 f0 f1 f2 f3
  obtain ⟨c0, c1, c2, c3, f0, f1, f2, f3⟩ := id m2.box
  go_at_call 57
  refine (H3.out _ _ (hz.later (by exact B2)) (by exact m2.hm) m2.owns.nil).mono ?_
  rintro e w3 ⟨v3, O3, k3, rfl, o3, hb_w3⟩
  clear c0 c1 c2 c3 f0 f1 f2 f3
  have b_w3 : Below w.heap.size w w3 := B2.trans (hb_w3.mono B2.size)
  have a3 : Below w3.heap.size w3 (w3.alloc (.cells #[.slice v3.A s2.h.ws.length v3.ca, .int .i64 s2.h.n, .slice v3.U s2.h.us.length v3.cu, .slice v3.V s2.h.l.length v3.cv, .int .i64 s2.n, .slice O3 s2.os.length k3, .int .u64 (s2.fa : Nat), .int .u64 (s2.go : Nat)] 64)) := Below.alloc (Below.refl _ _) (Nat.le_refl _) _
  have b3 := b_w3.trans (a3.mono b_w3.size)
  have X3 := E8.new w3 (.slice v3.A s2.h.ws.length v3.ca) (.int .i64 s2.h.n) (.slice v3.U s2.h.us.length v3.cu) (.slice v3.V s2.h.l.length v3.cv) (.int .i64 s2.n) (.slice O3 s2.os.length k3) (.int .u64 (s2.fa : Nat)) (.int .u64 (s2.go : Nat)) 64
  have M3 := o3.sm.later a3
  have n3 := o3.h.nil
  have z3 : w3.heap.size < (w3.alloc (.cells #[.slice v3.A s2.h.ws.length v3.ca, .int .i64 s2.h.n, .slice v3.U s2.h.us.length v3.cu, .slice v3.V s2.h.l.length v3.cv, .int .i64 s2.n, .slice O3 s2.os.length k3, .int .u64 (s2.fa : Nat), .int .u64 (s2.go : Nat)] 64)).heap.size := X3.lt
  have g3 := b_w3.size
  clear m2 B2 o3 hb_w3 b_w3
  obtain ⟨x0, x1, x2, x3, x4, x5, x6, x7, xf⟩ := id X3
  go_wp2_with fail
  go_at_call 47
  refine (H4.out _ _ _ _ (hz.later (by exact b3)) (by exact M3) n3).mono ?_
  rintro e w4 ⟨v4, O4, k4, rfl, o4, hb_w4⟩
  have X4 := X3.later hb_w4
  have b4 := b3.trans (hb_w4.mono b3.size)
  have n4 := o4.h.nil
  have X5 := X4.all (.slice v4.A s3.h.ws.length v4.ca) (.int .i64 s3.h.n) (.slice v4.U s3.h.us.length v4.cu) (.slice v4.V s3.h.l.length v4.cv) (.int .i64 s3.n) (.slice O4 s3.os.length k4) (.int .u64 (s3.fa : Nat)) (.int .u64 (s3.go : Nat))
  have M5 := (o4.over8 (g := w3.heap.size) z3 (.slice v4.A s3.h.ws.length v4.ca) (.int .i64 s3.h.n) (.slice v4.U s3.h.us.length v4.cu) (.slice v4.V s3.h.l.length v4.cv) (.int .i64 s3.n) (.slice O4 s3.os.length k4) (.int .u64 (s3.fa : Nat)) (.int .u64 (s3.go : Nat))).sm
  have b5 := below8 (g := w3.heap.size) b4 g3 (.slice v4.A s3.h.ws.length v4.ca) (.int .i64 s3.h.n) (.slice v4.U s3.h.us.length v4.cu) (.slice v4.V s3.h.l.length v4.cv) (.int .i64 s3.n) (.slice O4 s3.os.length k4) (.int .u64 (s3.fa : Nat)) (.int .u64 (s3.go : Nat))
  clear X3 M3 n3 b3 o4 a3 x0 x1 x2 x3 x4 x5 x6 x7 xf
  obtain ⟨x0, x1, x2, x3, x4, x5, x6, x7, xf⟩ := id X4
  go_wp2_with fail
  generalize ((((((((w4.setCell ⟨w3.heap.size, 0, none⟩ (.slice v4.A s3.h.ws.length v4.ca)).setCell ⟨w3.heap.size, 1, none⟩ (.int .i64 s3.h.n)).setCell ⟨w3.heap.size, 2, none⟩ (.slice v4.U s3.h.us.length v4.cu)).setCell ⟨w3.heap.size, 3, none⟩ (.slice v4.V s3.h.l.length v4.cv)).setCell ⟨w3.heap.size, 4, none⟩ (.int .i64 s3.n)).setCell ⟨w3.heap.size, 5, none⟩ (.slice O4 s3.os.length k4)).setCell ⟨w3.heap.size, 6, none⟩ (.int .u64 (s3.fa : Nat))).setCell ⟨w3.heap.size, 7, none⟩ (.int .u64 (s3.go : Nat))) = W5 at *
  clear X4 b4 hb_w4 z3 x0 x1 x2 x3 x4 x5 x6 x7 xf
  have s5' := b5.size
  have b_5x := b5
  clear b5
  obtain ⟨X5_0, X5_1, X5_2, X5_3, X5_4, X5_5, X5_6, X5_7, X5_f⟩ := id X5
  go_wp2_with fail
  go_at_call 53
  refine (H5.out _ _ _ _ (hz.later (by exact b_5x)) (by exact M5) n4).mono ?_
  rintro e w6 ⟨rfl, hb_w6⟩
  clear X5_0 X5_1 X5_2 X5_3 X5_4 X5_5 X5_6 X5_7 X5_f
  have b_w6 : Below w.heap.size w w6 := b_5x.trans (hb_w6.mono b_5x.size)
  replace X5 := X5.later hb_w6
  replace M5 := M5.later hb_w6
  obtain ⟨X5_0, X5_1, X5_2, X5_3, X5_4, X5_5, X5_6, X5_7, X5_f⟩ := id X5
  go_wp2_with fail
  go_at_call 43
  refine (H6.out _ _ _ _ (hz.later (by exact b_w6)) (by exact M5) n4).mono ?_
  rintro e w7 ⟨v7, O7, k7, rfl, o7, hb_w7⟩
  have M7 := o7.sm
  clear X5_0 X5_1 X5_2 X5_3 X5_4 X5_5 X5_6 X5_7 X5_f
  have b_w7 : Below w.heap.size w w7 := b_w6.trans (hb_w7.mono b_w6.size)
  replace X5 := X5.later hb_w7
  have p_X5 := X5
  have z_X5_w7 := X5.lt
  replace M5 := M5.later hb_w7
  have a_w7_0 : Below w7.heap.size w7 (w7.alloc (.cells #[.slice v7.A s4.h.ws.length v7.ca, .int .i64 s4.h.n, .slice v7.U s4.h.us.length v7.cu, .slice v7.V s4.h.l.length v7.cv, .int .i64 s4.n, .slice O7 s4.os.length k7, .int .u64 (s4.fa : Nat), .int .u64 (s4.go : Nat)] 64)) := Below.alloc (Below.refl _ _) (Nat.le_refl _) _
  replace X5 := X5.later a_w7_0
  replace M5 := M5.later a_w7_0
  have Y7 := E8.new w7 (.slice v7.A s4.h.ws.length v7.ca) (.int .i64 s4.h.n) (.slice v7.U s4.h.us.length v7.cu) (.slice v7.V s4.h.l.length v7.cv) (.int .i64 s4.n) (.slice O7 s4.os.length k7) (.int .u64 (s4.fa : Nat)) (.int .u64 (s4.go : Nat)) 64
  have b_w7_0 : Below w.heap.size w (w7.alloc (.cells #[.slice v7.A s4.h.ws.length v7.ca, .int .i64 s4.h.n, .slice v7.U s4.h.us.length v7.cu, .slice v7.V s4.h.l.length v7.cv, .int .i64 s4.n, .slice O7 s4.os.length k7, .int .u64 (s4.fa : Nat), .int .u64 (s4.go : Nat)] 64)) := b_w7.trans (a_w7_0.mono b_w7.size)
  have M7 := M7.later a_w7_0
  obtain ⟨X5_0, X5_1, X5_2, X5_3, X5_4, X5_5, X5_6, X5_7, X5_f⟩ := id p_X5
  go_wp2_with fail
  go_at_call 55
  refine (H7.out _ _ _ _ (hz.later (by exact b_w7_0)) (by exact M5)).mono ?_
  rintro e w8 ⟨A8, c8, rfl, R8, hb_w8⟩
  clear p_X5
  clear X5_0 X5_1 X5_2 X5_3 X5_4 X5_5 X5_6 X5_7 X5_f
  have b_w8 : Below w.heap.size w w8 := b_w7_0.trans (hb_w8.mono b_w7_0.size)
  replace X5 := X5.later hb_w8
  replace M5 := M5.later hb_w8
  replace Y7 := Y7.later hb_w8
  replace M7 := M7.later hb_w8
  obtain ⟨X5_0, X5_1, X5_2, X5_3, X5_4, X5_5, X5_6, X5_7, X5_f⟩ := id X5
  go_wp2_with fail
  go_at_call 49
  refine (H8.out _ _ _ _ (hz.later (by exact b_w8)) (by exact M5) n4).mono ?_
  rintro e w9 ⟨v9, O9, k9, rfl, o9, hb_w9⟩
  clear X5_0 X5_1 X5_2 X5_3 X5_4 X5_5 X5_6 X5_7 X5_f
  have b_w9 : Below w.heap.size w w9 := b_w8.trans (hb_w9.mono b_w8.size)
  replace X5 := X5.later hb_w9
  have p_X5 := X5
  have z_X5_w9 := X5.lt
  replace M5 := M5.later hb_w9
  replace Y7 := Y7.later hb_w9
  have p_Y7 := Y7
  have z_Y7_w9 := Y7.lt
  replace M7 := M7.later hb_w9
  replace R8 := R8.later hb_w9
  have a_w9_0 : Below w9.heap.size w9 (w9.alloc (.cells #[.slice v9.A s5.h.ws.length v9.ca, .int .i64 s5.h.n, .slice v9.U s5.h.us.length v9.cu, .slice v9.V s5.h.l.length v9.cv, .int .i64 s5.n, .slice O9 s5.os.length k9, .int .u64 (s5.fa : Nat), .int .u64 (s5.go : Nat)] 64)) := Below.alloc (Below.refl _ _) (Nat.le_refl _) _
  replace X5 := X5.later a_w9_0
  replace M5 := M5.later a_w9_0
  replace Y7 := Y7.later a_w9_0
  replace M7 := M7.later a_w9_0
  replace R8 := R8.later a_w9_0
  have b_w9_0 : Below w.heap.size w (w9.alloc (.cells #[.slice v9.A s5.h.ws.length v9.ca, .int .i64 s5.h.n, .slice v9.U s5.h.us.length v9.cu, .slice v9.V s5.h.l.length v9.cv, .int .i64 s5.n, .slice O9 s5.os.length k9, .int .u64 (s5.fa : Nat), .int .u64 (s5.go : Nat)] 64)) := b_w9.trans (a_w9_0.mono b_w9.size)
  obtain ⟨X5_0, X5_1, X5_2, X5_3, X5_4, X5_5, X5_6, X5_7, X5_f⟩ := id p_X5
  go_wp2_with fail
  go_at_call 47
  refine (H9.out _ _ _ _ (hz.later (by exact b_w9_0)) (by exact M5) n4).mono ?_
  rintro e w10 ⟨v10, O10, k10, rfl, o10, hb_w10⟩
  clear p_X5 p_Y7
  clear X5_0 X5_1 X5_2 X5_3 X5_4 X5_5 X5_6 X5_7 X5_f
  have b_w10 : Below w.heap.size w w10 := b_w9_0.trans (hb_w10.mono b_w9_0.size)
  replace X5 := X5.later hb_w10
  have p_X5 := X5
  have z_X5_w10 := X5.lt
  replace M5 := M5.later hb_w10
  replace Y7 := Y7.later hb_w10
  have p_Y7 := Y7
  have z_Y7_w10 := Y7.lt
  replace M7 := M7.later hb_w10
  replace R8 := R8.later hb_w10
  have a_w10_0 : Below w10.heap.size w10 (w10.alloc (.cells #[.slice v10.A s6.h.ws.length v10.ca, .int .i64 s6.h.n, .slice v10.U s6.h.us.length v10.cu, .slice v10.V s6.h.l.length v10.cv, .int .i64 s6.n, .slice O10 s6.os.length k10, .int .u64 (s6.fa : Nat), .int .u64 (s6.go : Nat)] 64)) := Below.alloc (Below.refl _ _) (Nat.le_refl _) _
  replace X5 := X5.later a_w10_0
  replace M5 := M5.later a_w10_0
  replace Y7 := Y7.later a_w10_0
  replace M7 := M7.later a_w10_0
  replace R8 := R8.later a_w10_0
  have b_w10_0 : Below w.heap.size w (w10.alloc (.cells #[.slice v10.A s6.h.ws.length v10.ca, .int .i64 s6.h.n, .slice v10.U s6.h.us.length v10.cu, .slice v10.V s6.h.l.length v10.cv, .int .i64 s6.n, .slice O10 s6.os.length k10, .int .u64 (s6.fa : Nat), .int .u64 (s6.go : Nat)] 64)) := b_w10.trans (a_w10_0.mono b_w10.size)
  obtain ⟨rb, ro, rfl, rl, rc⟩ := R8.at_ (by simp)
  have rc0 := rc 0 (by simp)
  simp only [Nat.add_zero, List.getD_cons_zero] at rc0
  clear rc
  obtain ⟨Y7_0, Y7_1, Y7_2, Y7_3, Y7_4, Y7_5, Y7_6, Y7_7, Y7_f⟩ := id p_Y7
  have z2 : ((2 : Nat) : Int) = 2 := rfl
  rw [HF4.out, z2] at Y7_6
  rw [HF4.out, z2] at H10
  go_wp2_with fail
  go_at_call 59
  refine (H10.out _ _ _ _ (hz.later (by exact b_w10_0)) (by exact M7)).mono ?_
  rintro e w11 ⟨rfl, hb_w11⟩
  have b_w11 := b_w10_0.trans (hb_w11.mono b_w10_0.size)
  go_wp2
  go_ret
  exact ⟨rfl, b_w11⟩
def flh : Hp := plcH (groH lh0 1 1 2 0) 0 0 0 0 false
theorem flnew : NewE lh0 0 0 false flh 16 0 := by
  refine .inr (.inr (.inr ⟨lk0, by decide, rfl, 0, 0, groH lh0 1 1 2 0, .inr (.inl ⟨by decide, .inr (.inl ⟨lk0.framed.spans, .inl ⟨rfl, fun i hi => absurd hi (Nat.not_lt_zero i)⟩, rfl, rfl, rfl⟩), ?_, rfl⟩), rfl, by decide +kernel⟩))
  have e1 : pgOf (0 + 1) = 1 := by decide
  have e2 : szn 0 = 2 := by decide
  rw [e1, e2]
  refine .inr (.inr ⟨1, 0, .inl ⟨rfl, 1, by decide, by decide +kernel, fun j hj => ?_, by decide⟩, by decide, .inl ⟨.inl ⟨rfl, fun i hi => absurd hi (Nat.not_lt_zero i)⟩, rfl⟩, rfl, rfl, rfl⟩)
  obtain rfl | rfl : j = 0 ∨ j = 1 := by omega
  · decide +kernel
  · decide +kernel
theorem flk : OkH flh := flnew.made.2.1
def fs2 : Sc := makS flh
theorem fk2 : OkS fs2 := makS_ok flk
def fs3 : Sc := relSc fs2 9
theorem fk3 : OkS fs3 := relSc_ok fk2 9
def flh4 : Hp := plcH (groH flh 2 2 0 1) 1 0 20 0 false
theorem flnew4 : NewE flh 20 0 false flh4 32 0 := by
  refine .inr (.inr (.inr ⟨flk, by decide, rfl, 1, 0, groH flh 2 2 0 1, .inr (.inr ⟨by decide, ?_, rfl⟩), rfl, by decide +kernel⟩))
  have e1 : pgOf (20 + 1) = 2 := by decide
  have e2 : szn 20 = 0 := by decide
  rw [e1, e2]
  refine .inr (.inr ⟨2, 1, .inl ⟨rfl, 3, by decide, by decide +kernel, fun j hj => ?_, by decide⟩, by decide, .inl ⟨.inl ⟨rfl, fun i hi => ?_⟩, rfl⟩, rfl, rfl, rfl⟩)
  · obtain rfl | rfl | rfl | rfl : j = 0 ∨ j = 1 ∨ j = 2 ∨ j = 3 := by omega
    · decide +kernel
    · decide +kernel
    · decide +kernel
    · decide +kernel
  · have hi : i < 1 := hi
    obtain rfl : i = 0 := by omega
    decide +kernel
theorem flk4 : OkH flh4 := flnew4.made.2.1
def fs4 : Sc := newSc fs3 flh4
theorem fk4 : OkS fs4 := newSc_ok fk3 flk4 (by decide +kernel)
theorem flives_any (w : World) (hz : Sizes w) : Calls Tryz.prog 51 #[] w fun e w' => e = .returned (.bool true) ∧ Below w.heap.size w w' :=
  flives_gen (h0 := lh0) (h1 := flh) (s2 := fs2) (s3 := fs3) (s4 := fs4) (s5 := relSc fs3 (keeQ fs3 0)) (s6 := fs3) (a1 := 16) (a4 := 32) flk lk0 lmake flnew (.inr ⟨flk, rfl, rfl⟩) (.inr (.inr ⟨fk2, by decide, rfl, by decide +kernel, rfl⟩)) (.inr ⟨fk3, by decide +kernel, by decide +kernel, rfl⟩) (.inr (.inr ⟨fk3, flh4, flnew4, rfl, rfl⟩))
    (.inr ⟨fk3, by decide +kernel, rfl⟩) (.inr (.inr ⟨fk3, by decide, rfl, by decide +kernel, rfl⟩)) (.inr (.inl ⟨fk3, by decide, rfl, rfl, rfl⟩)) fk2 fk3 fk4 (by decide +kernel) (by decide +kernel) w hz
end Go.Proofs.YtkfmbhlefppkhaaGreatDoor
