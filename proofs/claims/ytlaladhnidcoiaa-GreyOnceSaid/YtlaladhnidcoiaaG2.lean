/- Contracts: a set of addresses; members.add. -/
import Derived.Test.YtlaladhnidcoiaaG1
import Derived.Maps.AppendAt
import Derived.WalkKit
import Derived.LoopTactic
namespace Go.Proofs.Ytlaladhnidcoiaa
open Go.RowKit
set_option linter.unusedVariables false
set_option linter.unusedSimpArgs false

def kset (ks : List Nat) : DataW Unit := Maps.setOf (.agg []) (ks.map fun a => Lit.int .u64 ((a : Nat) : Int))
def SetM (w : World) (M : Nat) (ks : List Nat) : Prop := w.ownsMap Try.prog 30 (unitElem (H := Unit)) M ks.length (kset ks)
theorem ukey : Maps.Keyed Try.prog 30 := Maps.int_keyed Try.underlying30
theorem zeroU : ∃ e, Try.prog.underlying 47 = some (.map 30 e) ∧ ∀ w, (zeroValue e).run Try.prog w = .ok (.agg #[]) w := ⟨_, Try.underlying47, fun w => by kernel_rfl⟩
theorem kset_keys (ks : List Nat) : ∀ x ∈ ks.map (fun a => Lit.int .u64 ((a : Nat) : Int)), WideAt.IsKeyLit x := by
  intro x hx
  rw [List.mem_map] at hx
  obtain ⟨a, _, rfl⟩ := hx
  trivial
theorem has_kset (ks : List Nat) (a : Nat) : Maps.has (kset ks) (.int .u64 (a : Nat)) = decide (a ∈ ks) := by
  unfold kset
  rw [Maps.has_setOf _ _ _ (kset_keys ks), Bool.eq_iff_iff, List.any_eq_true]
  simp only [List.mem_map, decide_eq_true_eq]
  constructor
  · rintro ⟨_, ⟨b, hb, rfl⟩, e⟩
    have := WideAt.sameKey_eq e
    injection this with _ this
    have : b = a := by omega
    subst this; exact hb
  · intro h
    exact ⟨_, ⟨a, h, rfl⟩, WideAt.sameKey_self trivial⟩
theorem kset_snoc (ks : List Nat) (a : Nat) : kset (ks ++ [a]) = (kset ks).put (.int .u64 (a : Nat)) (.agg []) := by
  unfold kset
  rw [List.map_append, List.map_cons, List.map_nil, Maps.setOf_snoc]
theorem tidy_kset (ks : List Nat) : Maps.Tidy (kset ks) := Maps.tidy_setOf _ _ (kset_keys ks)
theorem nodup_snoc {ks : List Nat} {a : Nat} : (ks ++ [a]).Nodup ↔ ks.Nodup ∧ a ∉ ks := by
  rw [List.nodup_append]
  constructor
  · rintro ⟨h1, _, h3⟩
    exact ⟨h1, fun h => h3 a h a (by simp) rfl⟩
  · rintro ⟨h1, h2⟩
    exact ⟨h1, by simp, fun b hb c hc => by rw [List.mem_singleton] at hc; subst hc; rintro rfl; exact h2 hb⟩
theorem size_kset_aux : ∀ (n : Nat) (ks : List Nat), ks.length = n → ks.Nodup → Maps.size (kset ks) = n
  | 0, ks, hl, _ => by
    obtain rfl : ks = [] := List.eq_nil_of_length_eq_zero hl
    rfl
  | n + 1, ks, hl, hn => by
    obtain ⟨l, a, rfl⟩ : ∃ l a, ks = l ++ [a] := ⟨ks.dropLast, ks.getLast (by intro e; rw [e] at hl; simp at hl), (List.dropLast_concat_getLast _).symm⟩
    obtain ⟨h1, h2⟩ := nodup_snoc.1 hn
    have hl2 : l.length = n := by simpa using hl
    rw [kset_snoc, Maps.size_put (tidy_kset l), has_kset, if_neg (by simpa using h2), size_kset_aux n l hl2 h1]
theorem size_kset {ks : List Nat} (hn : ks.Nodup) : Maps.size (kset ks) = ks.length := size_kset_aux _ ks rfl hn
theorem SetM.later {w w' : World} {M : Nat} {ks : List Nat} (h : SetM w M ks) (hb : Below w.heap.size w w') : SetM w' M ks :=
  World.ownsMap.kept (row := none) h ⟨hb.os, hb.tape, hb.output, hb.size, fun k hk _ => hb.block k hk⟩ (by simp)
theorem SetM.lt {w : World} {M : Nat} {ks : List Nat} (h : SetM w M ks) : M < w.heap.size := World.ownsMap.lt h
section
variable {w : World} {M : Nat} {ks : List Nat}
set_option maxHeartbeats 2000000 in
theorem madd_any (hS : SetM w M ks) (hn : ks.Nodup) (hl : ks.length ≤ 16384) (a : Nat) (ha : a < W64) (y : Int) (hy : addErr ks a = y) :
    Calls Try.prog 26 #[.map (some M), .int .u64 (a : Nat)] w fun e w' => e = .returned (.int .i64 y) ∧ SetM w' M (if y = 0 then ks ++ [a] else ks) ∧ w.grownBy w' (some M) := by
  obtain ⟨tE, hmt, hz0⟩ := zeroU
  have hsz := size_kset hn
  have hown : w.ownsMap Try.prog 30 (unitElem (H := Unit)) M ks.length (kset ks) := hS
  have hkey : keyOf Try.prog 30 (.int .u64 (a : Nat)) = some (.int .u64 (a : Nat)) := Maps.keyOf_int_mk Try.underlying30 (by unfold W64 at ha; simp [Lit.wf, IntKind.min, IntKind.max, IntKind.bits, IntKind.signed]; omega)
  have hmem := has_kset ks a
  have hsn := kset_snoc ks a
  by_cases h0 : a = 0
  · have e1 : y = 7 := by rw [← hy]; simp [addErr, h0]
    subst e1 h0
    go_enter Try.func26, Try.ntmps26
    go_wp2
    go_ret
    exact ⟨rfl, by simpa using hS, ⟨rfl, rfl, rfl, Nat.le_refl _, fun _ _ _ => rfl⟩⟩
  · have f0 : ((a : Int) == 0) = false := by simp; omega
    by_cases h1 : a ∈ ks
    · have e1 : y = 4 := by rw [← hy]; simp [addErr, h0, h1]
      have f1 : Maps.has (kset ks) (.int .u64 (a : Nat)) = true := by rw [hmem]; simpa using h1
      subst e1
      clear hy h0 hmem h1 hsz hsn
      go_enter Try.func26, Try.ntmps26
      go_wp2_with (first | (at_lookup; refine wpList_lookup_own_unit _ rfl _ _ 47 rfl 30 tE ukey hmt (hz0 _) M ks.length _ rfl hown _ _ rfl hkey ?_) | go_in)
      go_ret
      exact ⟨rfl, by simpa using hS.later ((Below.refl _ _).alloc (Nat.le_refl _) _), World.grownBy_alloc _ _ _⟩
    · have f1 : Maps.has (kset ks) (.int .u64 (a : Nat)) = false := by rw [hmem]; simpa using h1
      by_cases h2 : ks.length = 16384
      · have e1 : y = 6 := by rw [← hy]; simp [addErr, h0, h1, h2]
        have f2 : ((Maps.size (kset ks) : Int) == 16384) = true := by rw [hsz, h2]; rfl
        subst e1
        clear hy h0 hmem h1 hsz hsn
        go_enter Try.func26, Try.ntmps26
        go_wp2_with (first | (at_lookup; refine wpList_lookup_own_unit _ rfl _ _ 47 rfl 30 tE ukey hmt (hz0 _) M ks.length _ rfl hown _ _ rfl hkey ?_) | (at_len; refine wpList_len_own _ rfl _ 47 rfl 30 tE hmt _ M ks.length _ rfl (hown.alloc _) ?_) | go_in)
        go_ret
        exact ⟨rfl, by simpa using hS.later ((Below.refl _ _).alloc (Nat.le_refl _) _), World.grownBy_alloc _ _ _⟩
      · have e1 : y = 0 := by rw [← hy]; simp [addErr, h0, h1, h2]
        have f2 : ((Maps.size (kset ks) : Int) == 16384) = false := by rw [hsz]; simp; omega
        subst e1
        clear hy h0 hmem h1 hsz
        go_enter Try.func26, Try.ntmps26
        go_wp2_with (first | (at_lookup; refine wpList_lookup_own_unit _ rfl _ _ 47 rfl 30 tE ukey hmt (hz0 _) M ks.length _ rfl hown _ _ rfl hkey ?_) | (at_len; refine wpList_len_own _ rfl _ 47 rfl 30 tE hmt _ M ks.length _ rfl (hown.alloc _) ?_) | (at_mapUpdate; refine wpList_mapUpdate_own _ rfl _ _ _ 47 rfl 30 tE ukey hmt (unitElem (H := Unit)) M ks.length _ rfl (hown.alloc _) (by unfold maxLen; omega) _ _ _ rfl rfl hkey _ [] unitElem_mk ?_; intro w1 hown1 hgrow1) | go_in)
        go_ret
        refine ⟨rfl, ?_, (World.grownBy_alloc _ _ _).trans hgrow1⟩
        show w1.ownsMap _ _ _ _ _ _
        rw [hsn, List.length_append, List.length_singleton]
        exact hown1
end
end Go.Proofs.Ytlaladhnidcoiaa
