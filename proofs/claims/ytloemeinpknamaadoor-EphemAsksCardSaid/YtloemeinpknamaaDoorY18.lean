/- Contract of the library's sort at slots, by their keys. -/
import Derived.Test.YtloemeinpknamaaDoorY17
namespace Go.Proofs.YtloemeinpknamaaDoor
open Go.RowKit
set_option linter.unusedVariables false
set_option linter.unusedSimpArgs false

instance : Inhabited Es := ⟨es0⟩
def cmpK (x y : Es) : Int := if x.k < y.k then -1 else if y.k < x.k then 1 else 0
theorem lt_cmpK (x y : Es) : ltOf cmpK x y = decide (x.k < y.k) := by
  unfold ltOf cmpK
  by_cases h1 : x.k < y.k
  · simp [h1]
  · by_cases h2 : y.k < x.k <;> simp [h1, h2]
theorem swo_cmpK : Go.Sort.SWO (ltOf cmpK) where
  irrefl x := by rw [lt_cmpK]; simp
  trans x y z h1 h2 := by rw [lt_cmpK] at *; simp at *; omega
  ntrans x y z h1 h2 := by rw [lt_cmpK] at *; simp at *; omega
theorem isnan_any (x : Nat) (w : World) : Calls Tryd.prog 50 #[.int .u64 (x : Nat)] w fun e w' => e = .returned (.bool false) ∧ w = w' := by
  have f1 : ((x : Int) != (x : Int)) = false := by simp
  go_enter Tryd.func50, Tryd.ntmps50
  go_wp2
  go_ret
  exact ⟨rfl, rfl⟩
theorem compare_any (x y : Es) (w : World) : Calls Tryd.prog 38 #[.int .u64 (x.k : Nat), .int .u64 (y.k : Nat)] w fun e w' => e = .returned (.int .i64 (cmpK x y)) ∧ w = w' := by
  unfold cmpK
  generalize x.k = a
  generalize y.k = b
  have HA := Lib.hid fun (w : World) (a : Nat) => isnan_any a w
  by_cases h1 : a < b
  · rw [if_pos h1]
    have f1 : decide (a < b) = true := decide_eq_true (by omega)
    clear h1
    go_enter Tryd.func38, Tryd.ntmps38
    go_wp2_with (go_at_call 50; refine (HA.out _ _).mono ?_; rintro e w' ⟨rfl, rfl⟩)
    go_ret
    exact ⟨rfl, rfl⟩
  · rw [if_neg h1]
    have f1 : decide (a < b) = false := decide_eq_false (by omega)
    by_cases h2 : b < a
    · rw [if_pos h2]
      have f2 : decide (b < a) = true := decide_eq_true (by omega)
      clear h1 h2
      go_enter Tryd.func38, Tryd.ntmps38
      go_wp2_with (go_at_call 50; refine (HA.out _ _).mono ?_; rintro e w' ⟨rfl, rfl⟩)
      go_ret
      exact ⟨rfl, rfl⟩
    · rw [if_neg h2]
      have f2 : decide (b < a) = false := decide_eq_false (by omega)
      clear h1 h2
      go_enter Tryd.func38, Tryd.ntmps38
      go_wp2_with (go_at_call 50; refine (HA.out _ _).mono ?_; rintro e w' ⟨rfl, rfl⟩)
      go_ret
      exact ⟨rfl, rfl⟩
theorem all1_any (x y : Es) (W : World) : Calls Tryd.prog 37 #[.agg (ecc x).toArray, .agg (ecc y).toArray] W fun e w' => e = .returned (.int .i64 (cmpK x y)) ∧ ∃ q os', w' = Go.Sort.grow (W.drewN q) os' := by
  have HC := Lib.hid fun W' => compare_any x y W'
  generalize cmpK x y = r at *
  obtain ⟨a, k, v⟩ := x
  obtain ⟨a', k', v'⟩ := y
  simp only at HC
  show Calls _ _ #[.agg #[.int .u8 (a : Nat), .int .u64 (k : Nat), .int .u64 (v : Nat)], .agg #[.int .u8 (a' : Nat), .int .u64 (k' : Nat), .int .u64 (v' : Nat)]] W _
  go_enter Tryd.func37, Tryd.ntmps37
  go_wp2_with (go_at_call 38; refine (HC.out _).mono ?_; rintro e w' ⟨rfl, rfl⟩)
  go_ret
  exact ⟨rfl, 0, _, by rw [Go.Sort.alloc_eq_grow, Go.Sort.alloc_eq_grow, Go.Sort.grow_grow]; rfl⟩
theorem eg_all1 : ∀ args w, (callFunc 37 args).run Tryd.prog w = .ok (.enter 37 args) w := enters_of Tryd.func37 (by kernel_rfl) rfl
theorem cmpLays (blk off size : Nat) (w : World) : CmpLays Tryd.prog 37 #[] ecc 3 cmpK blk off size w := fun _ _ _ _ x y => all1_any x y _
theorem ecc_len (x : Es) : (ecc x).length = 3 := rfl
theorem ecc_one (x : Es) : ∀ v ∈ ecc x, v.oneCell' = true := by
  intro v hv
  simp only [ecc, List.mem_cons, List.not_mem_nil, or_false] at hv
  rcases hv with rfl | rfl | rfl <;> rfl
theorem holdsK_own {w : World} {B g : Nat} {l : List Es} (h : EOwn w B (some ⟨g, 0, none⟩) l) : Go.Sort.HoldsK ecc 3 w g 0 l.toArray := by
  intro j hj
  rw [Go.Sort.size_flatK] at hj
  have hj2 : j < l.length * 3 := by simpa using hj
  obtain ⟨g', e, _, hg, hc, hf⟩ := h.at_ (by omega)
  injection e with e
  injection e with e
  subst e
  refine ⟨?_, by rw [Nat.zero_add]; exact hf j⟩
  rw [Nat.zero_add, Go.Sort.get_flatK _ _ _ _ hj]
  have hi : j / 3 < l.length := by omega
  obtain ⟨c0, c1, c2⟩ := hc (j / 3) hi
  have e1 : l.toArray[j / 3]! = nthE l (j / 3) := by
    rw [nthE_get l _ hi, getElem!_pos _ _ (by simpa using hi)]
    simp
  rw [e1]
  have h3 : j % 3 = 0 ∨ j % 3 = 1 ∨ j % 3 = 2 := by omega
  rcases h3 with h3 | h3 | h3
  · rw [h3, show j = j / 3 * 3 by omega, show j / 3 * 3 / 3 = j / 3 by omega, c0]; rfl
  · rw [h3, show j = j / 3 * 3 + 1 by omega, show (j / 3 * 3 + 1) / 3 = j / 3 by omega, c1]; rfl
  · rw [h3, show j = j / 3 * 3 + 2 by omega, show (j / 3 * 3 + 2) / 3 = j / 3 by omega, c2]; rfl
theorem grownBy_sortK {w : World} {g n : Nat} {os : Array Obj} (d : Array Es) : w.grownBy (sortWorldK ecc 3 w g 0 n d os) (some g) := by
  unfold sortWorldK Go.Sort.putRowK
  refine ⟨rfl, rfl, rfl, by simp, fun k hk hne => ?_⟩
  rw [Go.Sort.heap_grow_old _ _ (by simpa using hk)]
  have : g ≠ k := fun e => hne (by rw [e])
  simp [Go.Sort.putRow, Go.Sort.mapBlock, Go.Sort.ahead, Array.getElem?_modify, this]
/-- what the sort leaves -/
def SortE (w : World) (B : Nat) (A : Option Addr) (l : List Es) (e : Ending) (w' : World) : Prop := e = .returned (.tuple #[]) ∧ ∃ vs : List Es, vs.Perm l ∧ (∀ i j, i < j → j < vs.length → (nthE vs i).k ≤ (nthE vs j).k) ∧ EOwn w' B A vs ∧ w.grownBy w' (A.map fun a => a.block)
section
variable {w : World} {A : Option Addr} {l : List Es} (cap : Nat)
theorem esort_any {B : Nat} (ho : EOwn w B A l) (hl : l.length ≤ 5864062014805) :
    Calls Tryd.prog 36 #[.slice A l.length cap, .func (.func 37) #[] #[]] w fun e w' => SortE w B A l e w' := by
  by_cases h0 : 0 < l.length
  · obtain ⟨g, rfl, hB, hg, hc, hf⟩ := ho.at_ h0
    have hH := holdsK_own ho
    have hcon := AnyQ.slices_SortFunc sortEs 3 Tryd.isAgg54 Tryd.sizeOf54 ecc ecc_len ecc_one cmpK swo_cmpK 37 #[] g 0 cap l.toArray w eg_all1 (cmpLays g 0 l.toArray.size w) hH hg (by simp; omega)
    refine hcon.mono ?_
    rintro e w' ⟨rfl, d', n, os, ⟨hs, _, hp⟩, hsort, rfl⟩
    have hs' : d'.size = l.length := by simpa using hs
    have hH' := SWK.holds ⟨n, os, rfl⟩ hg hH hs
    have hperm : d'.toList.Perm l := by
      have hp' := hp
      rw [show (d'.extract 0 l.toArray.size) = d' by rw [← hs]; simp] at hp'
      simpa using hp'
    have hget : ∀ i, i < d'.toList.length → nthE d'.toList i = d'[i]! := fun i hi => by
      rw [nthE_get _ _ hi, getElem!_pos _ _ (by simpa using hi)]
      simp
    refine ⟨rfl, d'.toList, hperm, fun i j hij hj => ?_, ⟨fun s hs9 => ho.wd s (hperm.mem_iff.1 hs9), fun _ => ⟨g, rfl, hB, ?_, fun i hi => ?_, fun j => ?_⟩⟩, grownBy_sortK d'⟩
    · have := hsort i j (Nat.zero_le _) hij (by simp at hj; simp; omega)
      rw [lt_cmpK] at this
      rw [hget i (by omega), hget j hj]
      simpa using this
    · have := (grownBy_sortK (w := w) (g := g) (n := n) (os := os) d').size
      omega
    · have hi' : i < d'.size := by simpa using hi
      rw [hget i hi]
      have a0 := (hH'.cell hi' (c := 0) (by omega)).1
      have a1 := (hH'.cell hi' (c := 1) (by omega)).1
      have a2 := (hH'.cell hi' (c := 2) (by omega)).1
      rw [Nat.zero_add] at a0 a1 a2
      exact ⟨a0, a1, a2⟩
    · unfold sortWorldK Go.Sort.putRowK
      rw [Go.Sort.frozen?_grow _ _ _ (by simpa using hg), Go.Sort.frozen?_putRow]
      exact hf j
  · obtain rfl : l = [] := List.eq_nil_of_length_eq_zero (by omega)
    refine (AnyF.slices_SortFunc_none { sortEs with } A cap _ w).mono ?_
    rintro e w' ⟨rfl, rfl⟩
    exact ⟨rfl, [], List.Perm.refl _, fun i j _ hj => by simp at hj, EOwn.nil _ _ _, grown_below (Below.refl _ _) _⟩
end
end Go.Proofs.YtloemeinpknamaaDoor
