/- Contract of package ephem: All. -/
import Derived.Test.YtloemeinpknamaaDoorY18
import Derived.Deep.RegionHeld3
namespace Go.Proofs.YtloemeinpknamaaDoor
open Go.RowKit
set_option linter.unusedVariables false
set_option linter.unusedSimpArgs false

theorem step_push {ops : Array Oper} {d : Option Tmp} {ty : TypeId} {ps : String} {af : Array Edge} {a : Act} {K : Act → World → Prop} {Q : Exit → Act → World → Prop} {E : Prop} (w : World) (s x : Operand) (B : Nat)
    (v : Value) (n : Nat) (xs : List Value) (hs : a.eval s = v) (hown : w.ownsRow B 25 1 v n xs) (g0 : Nat) (y : Nat) (hx : a.eval x = .slice (some ⟨g0, 0, none⟩) 1 1) (hc : w.cell? ⟨g0, 0, none⟩ = some (.int .u64 (y : Nat))) (h63 : n ≤ 4096) (hB : B ≤ w.heap.size)
    (h : ∀ g cap w', w'.ownsRow B 25 1 (.slice (some ⟨g, 0, none⟩) (n + 1) cap) (n + 1) (xs ++ [.int .u64 (y : Nat)]) → w.grownBy w' v.ownBlock → (v.ownBlock = some g ∨ g = w.heap.size) → g < w'.heap.size → K (a.put d (.slice (some ⟨g, 0, none⟩) (n + 1) cap)) w') :
    if Region.wanted { dst := d, op := .call { callee := .builtin .append, args := #[s, x], argTypes := #[26, 26] }, type := ty, pos := ps, after := af, guard := none } (yielded ops a.tmps) = true then Oper.wp Tryd.prog { dst := d, op := .call { callee := .builtin .append, args := #[s, x], argTypes := #[26, 26] }, type := ty, pos := ps, after := af, guard := none } a w K Q else E := by
  obtain ⟨i0, hi, hz0, hz1, hz2⟩ := info_parts info_u64
  refine step_append_lies _ rfl s x 26 rfl B 25 i0 _ 1 8 Tryd.underlying26 hi hz0 hz1 hz2 rfl Nat.zero_lt_one v n xs hs hown ⟨g0, 0, none⟩ 1 1 [.int .u64 (y : Nat)] hx (by simp) ?_ (by simp [Value.oneCell']) (by omega) (by unfold maxLen; omega) (by omega) hB _ rfl h
  intro j u hj
  have hj0 : j = 0 := (by cases j with | zero => rfl | succ j => simp at hj)
  subst hj0
  simp at hj
  subst hj
  rw [add_form]
  exact hc
theorem owns_keptN {w w' : World} {B s n : Nat} {e : TypeId} {v : Value} {xs : List Value} {row : Option Nat} (h : w.ownsRow B e s v n xs) (hg : w.grownBy w' row) (hne : v.ownBlock = none ∨ v.ownBlock ≠ row) : w'.ownsRow B e s v n xs :=
  World.ownsRow.kept h hg hne
theorem sep_push {Kb Vb : Option Nat} {g7 H7 : Nat} (hsep : Vb = none ∨ Vb ≠ Kb) (hV : ∀ g, Vb = some g → g < H7) (h7 : Kb = some g7 ∨ g7 = H7) : Vb ≠ some g7 := by
  intro e
  rcases h7 with h | h
  · rcases hsep with h9 | h9
    · rw [h9] at e; cases e
    · exact h9 (e.trans h.symm)
  · have := hV g7 e; omega
theorem sep_push2 {Vb : Option Nat} {g7 g9 S7 H9 : Nat} (hne : Vb ≠ some g7) (h7 : g7 < S7) (hS : S7 ≤ H9) (h9 : Vb = some g9 ∨ g9 = H9) : g9 ≠ g7 := by
  rintro rfl
  rcases h9 with h | h
  · exact hne h
  · omega
/-- the slots of a table that bear a key, by their keys -/
def Srt (l vs : List Es) : Prop := vs.Perm (us l) ∧ ∀ i j, i < j → j < vs.length → (nthE vs i).k ≤ (nthE vs j).k
def keysE (vs : List Es) : List Nat := vs.map fun s => s.k
def valsE (vs : List Es) : List Nat := vs.map fun s => s.v
theorem keys_take (vs : List Es) (k : Nat) (h : k < vs.length) : vals (keysE (vs.take (k + 1))) = vals (keysE (vs.take k)) ++ [.int .u64 ((nthE vs k).k : Nat)] := by
  rw [take_nthE vs k h]; simp [keysE, vals]
theorem vals_take (vs : List Es) (k : Nat) (h : k < vs.length) : vals (valsE (vs.take (k + 1))) = vals (valsE (vs.take k)) ++ [.int .u64 ((nthE vs k).v : Nat)] := by
  rw [take_nthE vs k h]; simp [valsE, vals]
/-- what All answers -/
def AllR (w : World) (l : List Es) (e : Ending) (w' : World) : Prop := ∃ (vs : List Es) (K V : Option Addr) (ck cv : Nat), Srt l vs ∧ (∀ s ∈ vs, EW s) ∧ e = .returned (.tuple #[.slice K (keysE vs).length ck, .slice V (valsE vs).length cv, .int .i64 0]) ∧ OwnsN w' w.heap.size K (keysE vs).length ck (keysE vs) ∧ OwnsN w' w.heap.size V (valsE vs).length cv (valsE vs) ∧ Below w.heap.size w w'
section
variable {w : World} {A : Option Addr} {l : List Es} (cap : Nat)
theorem eall_bad (hT : Tz w) (hr : ERow w w.heap.size A l) (hl : l.length ≤ 5864062014805) (hn : A = none → cap = 0) (hok : ¬ OkT l) :
    Calls Tryd.prog 19 #[eph A l.length cap] w fun e w' => e = .returned (.tuple #[.slice none 0 0, .slice none 0 0, .int .i64 2]) ∧ Below w.heap.size w w' := by
  have HV := Lib.hid fun (w : World) hT hr => eview_any (w := w) (A := A) (l := l) cap hT hr hl hn _ _ (.inr ⟨hok, rfl, rfl⟩)
  clear hok
  unfold eph wrk at *
  go_enter Tryd.func19, Tryd.ntmps19
  go_wp2_with fail
  go_at_call 26
  refine (HV.out _ (hT.later (by repeat (first | exact Below.refl _ _ | assumption | (refine below_drewN ?_ _) | (refine Below.drew ?_) | (refine Below.alloc ?_ (by first | omega | (simp; omega) | simp) _) | (refine Below.setCell ?_ (by first | omega | (simp; omega) | simp) _) | (refine below_trans ?_ (by assumption) (by first | omega | (simp; omega) | simp))))) (hr.later (by repeat (first | exact Below.refl _ _ | assumption | (refine below_drewN ?_ _) | (refine Below.drew ?_) | (refine Below.alloc ?_ (by first | omega | (simp; omega) | simp) _) | (refine Below.setCell ?_ (by first | omega | (simp; omega) | simp) _) | (refine below_trans ?_ (by assumption) (by first | omega | (simp; omega) | simp)))))).mono ?_
  rintro e w1 ⟨rfl, hb_w1⟩
  obtain ⟨hc_w1, hf_w1⟩ := bcell hb_w1; have hz_w1_w_0 : w.heap.size < w1.heap.size := (by have hzz := hb_w1.size; (try simp only [World.size_alloc, World.size_setCell, World.size_drew, World.heap_drewN] at hzz); omega); have hs_w1 := hb_w1.size; (try simp only [World.size_alloc, World.size_setCell, World.size_drew, World.heap_drewN] at hs_w1)
  go_wp2
  go_ret3
  exact ⟨rfl, (by repeat (first | exact Below.refl _ _ | assumption | (refine below_drewN ?_ _) | (refine Below.drew ?_) | (refine Below.alloc ?_ (by first | omega | (simp; omega) | simp) _) | (refine Below.setCell ?_ (by first | omega | (simp; omega) | simp) _) | (refine below_trans ?_ (by assumption) (by first | omega | (simp; omega) | simp))))⟩
set_option maxHeartbeats 8000000 in
set_option maxRecDepth 100000 in
theorem eall_any (hT : Tz w) (hr : ERow w w.heap.size A l) (hl : l.length ≤ 5864062014805) (hn : A = none → cap = 0) (hok : OkT l) :
    Calls Tryd.prog 19 #[eph A l.length cap] w fun e w' => AllR w l e w' := by
  unfold AllR
  have HV := Lib.hid fun (w : World) hT hr => eview_any (w := w) (A := A) (l := l) cap hT hr hl hn _ _ (.inl ⟨hok, rfl, rfl⟩)
  have HU := Lib.hid fun (w : World) hr => eused_any (w := w) (A := A) (l := l) cap hr hl
  unfold UsedE at HU
  change Hid (∀ (w : World) (hr : ERow w w.heap.size A l), Calls Tryd.prog _ _ w fun e w' => ∃ (A : Option Addr) (cap : Nat), e = .returned (.slice A (us l).length cap) ∧ OwnsE w' w.heap.size (.slice A (us l).length cap) (us l) ∧ Below w.heap.size w w') at HU
  have HW := Lib.hid (us_ew hr)
  have h48 := hok.us48
  have HSR : Hid (∀ vs : List Es, vs.Perm (us l) → (∀ i j, i < j → j < vs.length → (nthE vs i).k ≤ (nthE vs j).k) → Srt l vs) := Lib.hid fun vs a b => ⟨a, b⟩
  have HSO := Lib.hid fun (w : World) (A : Option Addr) (cap B : Nat) ho => esort_any (w := w) (A := A) (l := us l) cap (B := B) ho (by omega)
  unfold SortE at HSO
  generalize us l = us at *
  clear hok
  unfold eph wrk at *
  go_enter Tryd.func19, Tryd.ntmps19
  go_wp2_with fail
  go_at_call 26
  refine (HV.out _ (hT.later (by repeat (first | exact Below.refl _ _ | assumption | (refine below_drewN ?_ _) | (refine Below.drew ?_) | (refine Below.alloc ?_ (by first | omega | (simp; omega) | simp) _) | (refine Below.setCell ?_ (by first | omega | (simp; omega) | simp) _) | (refine below_trans ?_ (by assumption) (by first | omega | (simp; omega) | simp))))) (hr.later (by repeat (first | exact Below.refl _ _ | assumption | (refine below_drewN ?_ _) | (refine Below.drew ?_) | (refine Below.alloc ?_ (by first | omega | (simp; omega) | simp) _) | (refine Below.setCell ?_ (by first | omega | (simp; omega) | simp) _) | (refine below_trans ?_ (by assumption) (by first | omega | (simp; omega) | simp)))))).mono ?_
  rintro e w1 ⟨rfl, hb_w1⟩
  obtain ⟨hc_w1, hf_w1⟩ := bcell hb_w1; have hz_w1_w_0 : w.heap.size < w1.heap.size := (by have hzz := hb_w1.size; (try simp only [World.size_alloc, World.size_setCell, World.size_drew, World.heap_drewN] at hzz); omega); have hs_w1 := hb_w1.size; (try simp only [World.size_alloc, World.size_setCell, World.size_drew, World.heap_drewN] at hs_w1)
  have b1 : Below w.heap.size w w1 := (by repeat (first | exact Below.refl _ _ | assumption | (refine below_drewN ?_ _) | (refine Below.drew ?_) | (refine Below.alloc ?_ (by first | omega | (simp; omega) | simp) _) | (refine Below.setCell ?_ (by first | omega | (simp; omega) | simp) _) | (refine below_trans ?_ (by assumption) (by first | omega | (simp; omega) | simp))))
  clear hc_w1 hf_w1
  go_wp2_with fail
  go_at_call 35
  refine (HU.out _ ((hr.later b1).later (by repeat (first | exact Below.refl _ _ | assumption | (refine below_drewN ?_ _) | (refine Below.drew ?_) | (refine Below.alloc ?_ (by first | omega | (simp; omega) | simp) _) | (refine Below.setCell ?_ (by first | omega | (simp; omega) | simp) _) | (refine below_trans ?_ (by assumption) (by first | omega | (simp; omega) | simp)))))).mono ?_
  rintro e w2 ⟨Au, cu, rfl, ou, hb_w2⟩
  obtain ⟨hc_w2, hf_w2⟩ := bcell hb_w2; have hz_w2_w1_0 : w1.heap.size < w2.heap.size := (by have hzz := hb_w2.size; (try simp only [World.size_alloc, World.size_setCell, World.size_drew, World.heap_drewN] at hzz); omega); have hs_w2 := hb_w2.size; (try simp only [World.size_alloc, World.size_setCell, World.size_drew, World.heap_drewN] at hs_w2)
  have b2 : Below w.heap.size w w2 := (by repeat (first | exact Below.refl _ _ | assumption | (refine below_drewN ?_ _) | (refine Below.drew ?_) | (refine Below.alloc ?_ (by first | omega | (simp; omega) | simp) _) | (refine Below.setCell ?_ (by first | omega | (simp; omega) | simp) _) | (refine below_trans ?_ (by assumption) (by first | omega | (simp; omega) | simp))))
  have eu : EOwn w2 (w1.heap.size + 1) Au us := (EOwn.of_owns ou HW.out).mono (by simp)
  have HOB : Hid (∀ j, (Au.map fun a => a.block) = some j → w1.heap.size + 1 ≤ j) := Lib.hid fun j hj => by
    have h9 := (ou.lt j (by cases Au with | none => cases hj | some a => exact hj)).1
    simpa using h9
  clear hc_w2 hf_w2 ou
  go_wp2_with fail
  go_at_call 36
  refine (HSO.out _ _ _ _ eu).mono ?_
  rintro e w3 ⟨rfl, vs, hperm, hsort, ev, hg3⟩
  have hs3 := hg3.size
  have b3 : Below w.heap.size w w3 := Below.grown b2 hg3 (by omega) (fun j hj => by have := HOB.out j hj; omega)
  have hlen : us.length = vs.length := hperm.length_eq.symm
  have HRES := Lib.hid (HSR.out vs hperm hsort)
  have HWV : Hid (∀ s ∈ vs, EW s) := Lib.hid ev.wd
  have rv := ev.row
  have HKT := Lib.hid fun k h => keys_take vs k h
  have HVT := Lib.hid fun k h => vals_take vs k h
  have hv48 : vs.length ≤ 48 := by omega
  rw [hlen]
  clear hperm hsort ev hg3 eu
  go_wp2_with fail
  go_loopw [8, 9, 26] (fun kk vv ii wr => ∃ k : Nat, ii = .int .i64 (k : Nat) ∧ k ≤ vs.length ∧ ∃ (Kc Vc : Option Addr) (ck cv : Nat), kk = .slice Kc k ck ∧ vv = .slice Vc k cv ∧ wr.ownsRow w3.heap.size 25 1 (.slice Kc k ck) k (vals (keysE (vs.take k))) ∧ wr.ownsRow w3.heap.size 25 1 (.slice Vc k cv) k (vals (valsE (vs.take k))) ∧ ((Value.slice Vc k cv).ownBlock = none ∨ (Value.slice Vc k cv).ownBlock ≠ (Value.slice Kc k ck).ownBlock) ∧ w3.heap.size ≤ wr.heap.size ∧ Below w3.heap.size w3 wr) (fun kk vv ii _ => vs.length - (intOf ii).toNat)
  case atStart => exact ⟨0, rfl, Nat.zero_le _, none, none, 0, 0, rfl, rfl, World.ownsRow_nil _ _ _ _, World.ownsRow_nil _ _ _ _, .inl rfl, (by first | omega | (simp; omega) | simp), (by repeat (first | exact Below.refl _ _ | assumption | (refine below_drewN ?_ _) | (refine Below.drew ?_) | (refine Below.alloc ?_ (by first | omega | (simp; omega) | simp) _) | (refine Below.setCell ?_ (by first | omega | (simp; omega) | simp) _) | (refine below_trans ?_ (by assumption) (by first | omega | (simp; omega) | simp))))⟩
  case round =>
    obtain ⟨k, rfl, hk, Kc, Vc, ck, cv, rfl, rfl, oK, oV, hsep, hsz, hb_wr⟩ := hrel
    by_cases hlt : k < vs.length
    · obtain ⟨b, off, rfl, hbb, hc⟩ := (rv.later hb_wr).at_ (by omega)
      obtain ⟨c0, c1, c2⟩ := hc k hlt
      have HK1 := Lib.hid (HKT.out k hlt)
      have HV1 := Lib.hid (HVT.out k hlt)
      have i1 : (k : Int) < (vs.length : Int) := by omega
      have i2 : (0 : Int) ≤ (k : Int) := by omega
      generalize nthE vs k = s at *
      obtain ⟨ss, sk, sv⟩ := s
      simp only at c0 c1 c2 HK1 HV1
      generalize vals (keysE (vs.take k)) = XK at *
      generalize vals (valsE (vs.take k)) = XV at *
      have HSEP := Lib.hid hsep
      have HVL : Hid (∀ g, (Value.slice Vc k cv).ownBlock = some g → g < wr.heap.size) := Lib.hid fun g e => (oV.lt g e).2
      have HKL : Hid (∀ g, (Value.slice Kc k ck).ownBlock = some g → w3.heap.size ≤ g) := Lib.hid fun g e => (oK.lt g e).1
      have HVB : Hid (∀ g, (Value.slice Vc k cv).ownBlock = some g → w3.heap.size ≤ g) := Lib.hid fun g e => (oV.lt g e).1
      have HKF : Hid (∀ j, wr.heap.size ≤ j → some j ≠ (Value.slice Kc k ck).ownBlock) := Lib.hid fun j hj e => by have := (oK.lt _ e.symm).2; omega
      have HKN : Hid (some wr.heap.size ≠ (Value.slice Kc k ck).ownBlock) := Lib.hid fun e => by have := (oK.lt _ e.symm).2; omega
      have HVN : Hid (some wr.heap.size ≠ (Value.slice Vc k cv).ownBlock) := Lib.hid fun e => by have := (oV.lt _ e.symm).2; omega
      have OK9 := Lib.hid oK
      have OV9 := Lib.hid oV
      have hk4 : k ≤ 4096 := by omega
      clear hc hsep oK oV
      go_wp2_with fail
      go_region_held3 (fun X : World => X.cell? ⟨wr.heap.size, 1, none⟩ = some (.int .u64 (sk : Nat)) ∧ X.cell? ⟨wr.heap.size, 2, none⟩ = some (.int .u64 (sv : Nat)))
        ((refine ⟨?_, ?_⟩ <;> first | assumption | (simp [go_sem]; done) | exact (World.cell?_alloc_lt _ _ ⟨_, _, _⟩ (by first | omega | (simp; omega) | simp)).trans (by assumption)))
        ((first
          | (refine step_push _ (.tmp 30) (.tmp 33) w3.heap.size (.slice Kc k ck) k XK ?_ ?_ ?_ sk ?_ ?_ ?_ ?_ ?_; (case refine_1 => rfl); (case refine_4 => rfl); (case refine_2 => exact owns_laterN OK9.out (by repeat (first | exact Below.refl _ _ | assumption | (refine below_drewN ?_ _) | (refine Below.drew ?_) | (refine Below.alloc ?_ (by first | omega | (simp; omega) | simp) _) | (refine Below.setCell ?_ (by first | omega | (simp; omega) | simp) _) | (refine below_trans ?_ (by assumption) (by first | omega | (simp; omega) | simp))))); (case refine_5 => (first | (simp [go_sem]; done) | exact (World.cell?_alloc_lt _ _ ⟨_, _, _⟩ (by first | omega | (simp; omega) | simp)).trans (by simp [go_sem]))); (case refine_6 => exact hk4); (case refine_7 => exact (by first | omega | (simp; omega) | simp)); intro g7 cap7 w7 hown7 hg7 hat7 hlt7; have hs7 := hg7.size; have oV7 := owns_keptN (owns_laterN OV9.out (by repeat (first | exact Below.refl _ _ | assumption | (refine below_drewN ?_ _) | (refine Below.drew ?_) | (refine Below.alloc ?_ (by first | omega | (simp; omega) | simp) _) | (refine Below.setCell ?_ (by first | omega | (simp; omega) | simp) _) | (refine below_trans ?_ (by assumption) (by first | omega | (simp; omega) | simp))))) hg7 HSEP.out; have b7 : Below w3.heap.size w3 w7 := Below.grown (show Below w3.heap.size w3 _ from (by repeat (first | exact Below.refl _ _ | assumption | (refine below_drewN ?_ _) | (refine Below.drew ?_) | (refine Below.alloc ?_ (by first | omega | (simp; omega) | simp) _) | (refine Below.setCell ?_ (by first | omega | (simp; omega) | simp) _) | (refine below_trans ?_ (by assumption) (by first | omega | (simp; omega) | simp))))) hg7 (by first | omega | (simp; omega) | simp) (fun j hj => HKL.out j hj); have u70 : w7.cell? ⟨wr.heap.size, 1, none⟩ = some (.int .u64 (sk : Nat)) := (World.cell?_of_block (hg7.block wr.heap.size (by first | omega | (simp; omega) | simp) HKN.out)).trans (by first | (simp [go_sem]; done) | exact (World.cell?_alloc_lt _ _ ⟨_, _, _⟩ (by first | omega | (simp; omega) | simp)).trans (by simp [go_sem])); have u71 : w7.cell? ⟨wr.heap.size, 2, none⟩ = some (.int .u64 (sv : Nat)) := (World.cell?_of_block (hg7.block wr.heap.size (by first | omega | (simp; omega) | simp) HKN.out)).trans (by first | (simp [go_sem]; done) | exact (World.cell?_alloc_lt _ _ ⟨_, _, _⟩ (by first | omega | (simp; omega) | simp)).trans (by simp [go_sem])); have nV7 := sep_push HSEP.out (fun g e => (by have := HVL.out g e; (try simp only [World.size_alloc, World.size_drew, World.heap_drewN]); omega)) hat7; (try simp only [World.size_alloc, World.size_drew, World.heap_drewN] at hs7 hat7))
          | (refine step_push _ (.tmp 35) (.tmp 38) w3.heap.size (.slice Vc k cv) k XV ?_ ?_ ?_ sv ?_ ?_ ?_ ?_ ?_; (case refine_1 => rfl); (case refine_4 => rfl); (case refine_2 => (first | exact oV7 | exact owns_laterN oV7 (by repeat (first | exact Below.refl _ _ | assumption | (refine below_drewN ?_ _) | (refine Below.drew ?_) | (refine Below.alloc ?_ (by first | omega | (simp; omega) | simp) _) | (refine Below.setCell ?_ (by first | omega | (simp; omega) | simp) _) | (refine below_trans ?_ (by assumption) (by first | omega | (simp; omega) | simp)))))); (case refine_5 => (first | (simp [go_sem]; done) | (refine (World.cell?_of_block (hg7.block _ (by first | omega | (simp; omega) | simp) (HKF.out _ (by first | omega | (simp; omega) | simp)))).trans ?_; first | (simp [go_sem]; done) | exact (World.cell?_alloc_lt _ _ ⟨_, _, _⟩ (by first | omega | (simp; omega) | simp)).trans (by simp [go_sem])))); (case refine_6 => exact hk4); (case refine_7 => exact (by first | omega | (simp; omega) | simp)); intro g9 cap9 w9 hown9 hg9 hat9 hlt9; have hs9 := hg9.size; have n97 := sep_push2 nV7 hlt7 (show w7.heap.size ≤ _ from (by first | omega | (simp; omega) | simp)) hat9; have b9 : Below w3.heap.size w3 w9 := Below.grown (show Below w3.heap.size w3 _ from (by repeat (first | exact Below.refl _ _ | assumption | (refine below_drewN ?_ _) | (refine Below.drew ?_) | (refine Below.alloc ?_ (by first | omega | (simp; omega) | simp) _) | (refine Below.setCell ?_ (by first | omega | (simp; omega) | simp) _) | (refine below_trans ?_ (by assumption) (by first | omega | (simp; omega) | simp))))) hg9 (by first | omega | (simp; omega) | simp) (fun j hj => HVB.out j hj); have oK9 := owns_keptN (show World.ownsRow _ w3.heap.size 25 1 (.slice (some ⟨g7, 0, none⟩) (k + 1) cap7) (k + 1) (XK ++ [.int .u64 (sk : Nat)]) from (by first | exact hown7 | exact owns_laterN hown7 (by repeat (first | exact Below.refl _ _ | assumption | (refine below_drewN ?_ _) | (refine Below.drew ?_) | (refine Below.alloc ?_ (by first | omega | (simp; omega) | simp) _) | (refine Below.setCell ?_ (by first | omega | (simp; omega) | simp) _) | (refine below_trans ?_ (by assumption) (by first | omega | (simp; omega) | simp)))))) hg9 (.inr fun e => nV7 e.symm); have u90 : w9.cell? ⟨wr.heap.size, 1, none⟩ = some (.int .u64 (sk : Nat)) := (World.cell?_of_block (hg9.block wr.heap.size (by first | omega | (simp; omega) | simp) HVN.out)).trans (by first | exact u70 | (exact (World.cell?_alloc_lt _ _ ⟨_, _, _⟩ (by first | omega | (simp; omega) | simp)).trans u70) | (exact (World.cell?_alloc_lt _ _ ⟨_, _, _⟩ (by first | omega | (simp; omega) | simp)).trans ((World.cell?_alloc_lt _ _ ⟨_, _, _⟩ (by first | omega | (simp; omega) | simp)).trans u70)) | (simp [go_sem, u70]; done)); have u91 : w9.cell? ⟨wr.heap.size, 2, none⟩ = some (.int .u64 (sv : Nat)) := (World.cell?_of_block (hg9.block wr.heap.size (by first | omega | (simp; omega) | simp) HVN.out)).trans (by first | exact u71 | (exact (World.cell?_alloc_lt _ _ ⟨_, _, _⟩ (by first | omega | (simp; omega) | simp)).trans u71) | (exact (World.cell?_alloc_lt _ _ ⟨_, _, _⟩ (by first | omega | (simp; omega) | simp)).trans ((World.cell?_alloc_lt _ _ ⟨_, _, _⟩ (by first | omega | (simp; omega) | simp)).trans u71)) | (simp [go_sem, u71]; done)); (try simp only [World.size_alloc, World.size_drew, World.heap_drewN] at hs9 hat9))))
      all_goals
        have OK10 := Lib.hid oK9
        have OV10 := Lib.hid hown9
        clear oK9 hown9 hown7 oV7 hg7 hg9
        go_wp2
        go_roundw
        case rel => exact ⟨k + 1, by go_num, by omega, some ⟨g7, 0, none⟩, some ⟨g9, 0, none⟩, cap7, cap9, rfl, rfl, by rw [HK1.out]; exact OK10.out, by rw [HV1.out]; exact OV10.out, .inr (by intro e; injection e with e; exact n97 e), (by first | omega | (simp; omega) | simp), (by repeat (first | exact Below.refl _ _ | assumption | (refine below_drewN ?_ _) | (refine Below.drew ?_) | (refine Below.alloc ?_ (by first | omega | (simp; omega) | simp) _) | (refine Below.setCell ?_ (by first | omega | (simp; omega) | simp) _) | (refine below_trans ?_ (by assumption) (by first | omega | (simp; omega) | simp))))⟩
        case measure => simp [intOf]; omega
    · obtain rfl : k = vs.length := by omega
      rw [List.take_length] at oK oV
      have HL1 : Hid ((keysE vs).length = vs.length) := Lib.hid (by simp [keysE])
      have HL2 : Hid ((valsE vs).length = vs.length) := Lib.hid (by simp [valsE])
      have OK10 := Lib.hid oK
      have OV10 := Lib.hid oV
      clear oK oV
      go_wp2
      go_ret3
      refine ⟨vs, Kc, Vc, ck, cv, HRES.out, HWV.out, by rw [HL1.out, HL2.out]; rfl, ⟨rfl, fun x hx => ?_, by rw [HL1.out]; exact owns_monoN OK10.out (by omega)⟩, ⟨rfl, fun x hx => ?_, by rw [HL2.out]; exact owns_monoN OV10.out (by omega)⟩, below_trans b3 hb_wr (by omega)⟩
      · simp only [keysE, List.mem_map] at hx
        obtain ⟨s, hs, rfl⟩ := hx
        exact (HWV.out s hs).2.1
      · simp only [valsE, List.mem_map] at hx
        obtain ⟨s, hs, rfl⟩ := hx
        exact (HWV.out s hs).2.2
end
end Go.Proofs.YtloemeinpknamaaDoor
