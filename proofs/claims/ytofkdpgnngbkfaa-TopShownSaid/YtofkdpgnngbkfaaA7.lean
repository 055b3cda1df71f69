/- Contracts of package arena: whatever is asked of it. -/
import Derived.Test.YtofkdpgnngbkfaaA6
namespace Go.Proofs.Ytofkdpgnngbkfaa
open Go.RowKit
set_option linter.unusedVariables false
set_option linter.unusedSimpArgs false

/-- what an arena's change comes to, if it may be made when p -/
def resA (ws : List Nat) (p : Prop) [Decidable p] (us : List Nat) : List Nat := if ws.length ≤ 16384 then (if p then us else ws) else []
def errA (ws : List Nat) (p : Prop) [Decidable p] : Int := if ws.length ≤ 16384 then (if p then 0 else 1) else 2
theorem resA_bad {ws us : List Nat} {p : Prop} [Decidable p] (h : ¬ ws.length ≤ 16384) : resA ws p us = [] ∧ errA ws p = 2 := ⟨if_neg h, if_neg h⟩
theorem resA_in {ws us : List Nat} {p : Prop} [Decidable p] (h : ws.length ≤ 16384) (hp : p) : resA ws p us = us ∧ errA ws p = 0 := ⟨(if_pos h).trans (if_pos hp), (if_pos h).trans (if_pos hp)⟩
theorem resA_out {ws us : List Nat} {p : Prop} [Decidable p] (h : ws.length ≤ 16384) (hp : ¬ p) : resA ws p us = ws ∧ errA ws p = 1 := ⟨(if_pos h).trans (if_neg hp), (if_pos h).trans (if_neg hp)⟩
theorem there_iff (len a n : Nat) : There len (a : Nat) (n : Nat) ↔ a + n ≤ len := by unfold There; omega

section
variable {A : Option Addr} {ws : List Nat} {w : World} (cap : Nat)
theorem cell_later {W W' : World} {a : Nat} {v : Value} (hb : Below W.heap.size W W') (h : W.cell? ⟨a, 0, none⟩ = some v) : W'.cell? ⟨a, 0, none⟩ = some v := ((bcell hb).1 _ _ (World.block_lt_of_cell? W ⟨a, 0, none⟩ h)).trans h
theorem store_any (i v : Nat) (hr : Row w w.heap.size A ws) (hl : ws.length ≤ 17592186044416) (h1 : i < W64) (hv : v < W64) :
    Calls Try.prog 17 #[.agg #[.slice A ws.length cap], .int .u64 (i : Nat), .int .u64 (v : Nat)] w fun e w' => FreshA w (resA ws (i + 1 ≤ ws.length) (ws.set i v)) (errA ws (i + 1 ≤ ws.length)) e w' := by
  have hi : ((i : Nat) : Int) ≤ 18446744073709551615 := by unfold W64 at h1; omega
  by_cases hb : ws.length ≤ 16384
  · by_cases ht : i + 1 ≤ ws.length
    · rw [(resA_in (us := ws.set i v) hb ht).1, (resA_in (us := ws.set i v) hb ht).2]
      exact store_core cap i v true _ _ hl (by omega) hi (.inl ⟨rfl, (there_iff _ i 1).2 ht⟩) fun W hbW hq hp hlt => changed_store cap (w.heap.size + 2) (w.heap.size + 1) (ws.set i v) (hr.later hbW) hb (by simp) fun W2 g hG hb2 hg =>
        do_store i v _ _ hG hr.words hb (by omega) hv (cell_later hb2 hp) (cell_later hb2 hq)
    · rw [(resA_out (us := ws.set i v) hb ht).1, (resA_out (us := ws.set i v) hb ht).2]
      exact store_core cap i v false _ _ hl (by omega) hi (.inr ⟨rfl, fun h => ht ((there_iff _ i 1).1 h)⟩) fun W hbW hq hp hlt => changed_out cap _ (hr.later hbW) hb
  · rw [(resA_bad (us := ws.set i v) (p := i + 1 ≤ ws.length) hb).1, (resA_bad (us := ws.set i v) (p := i + 1 ≤ ws.length) hb).2]
    by_cases ht : i + 1 ≤ ws.length
    · exact store_core cap i v true _ _ hl (by omega) hi (.inl ⟨rfl, (there_iff _ i 1).2 ht⟩) fun W hbW hq hp hlt => changed_bad cap _ _ hb
    · exact store_core cap i v false _ _ hl (by omega) hi (.inr ⟨rfl, fun h => ht ((there_iff _ i 1).1 h)⟩) fun W hbW hq hp hlt => changed_bad cap _ _ hb
theorem words_zero_over {ws : List Nat} (h : Words ws) (a n : Nat) : Words (overTo ws a (fun _ => 0) n) := words_overTo h a (fun _ => by decide) n
theorem clear_any (i n : Nat) (hr : Row w w.heap.size A ws) (hl : ws.length ≤ 17592186044416) (h1 : i < W64) (h2 : n < W64) :
    Calls Try.prog 20 #[.agg #[.slice A ws.length cap], .int .u64 (i : Nat), .int .u64 (n : Nat)] w fun e w' => FreshA w (resA ws (i + n ≤ ws.length) (overTo ws i (fun _ => 0) n)) (errA ws (i + n ≤ ws.length)) e w' := by
  have hi : ((i : Nat) : Int) ≤ 18446744073709551615 := by unfold W64 at h1; omega
  have hn : ((n : Nat) : Int) ≤ 18446744073709551615 := by unfold W64 at h2; omega
  by_cases hb : ws.length ≤ 16384
  · by_cases ht : i + n ≤ ws.length
    · rw [(resA_in (us := overTo ws i (fun _ => 0) n) hb ht).1, (resA_in (us := overTo ws i (fun _ => 0) n) hb ht).2]
      exact clear_core cap i n true _ _ hl (by omega) hi (by omega) hn (.inl ⟨rfl, (there_iff _ i n).2 ht⟩) fun W hbW hp hq hlt => changed_clear cap (w.heap.size + 1) (w.heap.size + 2) (overTo ws i (fun _ => 0) n) (hr.later hbW) hb (length_overTo _ _ _ _) fun W2 g hG hb2 hg =>
        do_clear i n _ _ hG hr.words hb ht (cell_later hb2 hp) (cell_later hb2 hq)
    · rw [(resA_out (us := overTo ws i (fun _ => 0) n) hb ht).1, (resA_out (us := overTo ws i (fun _ => 0) n) hb ht).2]
      exact clear_core cap i n false _ _ hl (by omega) hi (by omega) hn (.inr ⟨rfl, fun h => ht ((there_iff _ i n).1 h)⟩) fun W hbW hq hp hlt => changed_out cap _ (hr.later hbW) hb
  · rw [(resA_bad (us := overTo ws i (fun _ => 0) n) (p := i + n ≤ ws.length) hb).1, (resA_bad (us := overTo ws i (fun _ => 0) n) (p := i + n ≤ ws.length) hb).2]
    by_cases ht : i + n ≤ ws.length
    · exact clear_core cap i n true _ _ hl (by omega) hi (by omega) hn (.inl ⟨rfl, (there_iff _ i n).2 ht⟩) fun W hbW hq hp hlt => changed_bad cap _ _ hb
    · exact clear_core cap i n false _ _ hl (by omega) hi (by omega) hn (.inr ⟨rfl, fun h => ht ((there_iff _ i n).1 h)⟩) fun W hbW hq hp hlt => changed_bad cap _ _ hb

/-- n words that stand from i on are laid from t on -/
def movedA (ws : List Nat) (t i n : Nat) : List Nat := overTo ws t (fun j => ws.getD (i + j) 0) n
theorem length_movedA (ws : List Nat) (t i n : Nat) : (movedA ws t i n).length = ws.length := length_overTo _ _ _ _
theorem words_movedA {ws : List Nat} (h : Words ws) (t i n : Nat) : Words (movedA ws t i n) := words_overTo h _ (fun _ => h.at_ _) n
/-- a word is asked for -/
def gotA (ws : List Nat) (i : Nat) : Nat := if ws.length ≤ 16384 then (if i + 1 ≤ ws.length then ws.getD i 0 else 0) else 0
theorem load_any (i : Nat) (hr : Row w w.heap.size A ws) (h1 : i < W64) :
    Calls Try.prog 5 #[.agg #[.slice A ws.length cap], .int .u64 (i : Nat)] w fun e w' => e = .returned (.tuple #[.int .u64 (gotA ws i : Nat), .int .i64 (errA ws (i + 1 ≤ ws.length))]) ∧ Below w.heap.size w w' := by
  unfold gotA errA
  unfold W64 at h1
  by_cases hb : ws.length ≤ 16384
  · rw [if_pos hb, if_pos hb]
    by_cases ht : i + 1 ≤ ws.length
    · rw [if_pos ht, if_pos ht]
      have := load_in cap (i : Nat) hr hb (by omega) (by omega)
      rwa [Int.toNat_natCast] at this
    · rw [if_neg ht, if_neg ht]
      exact load_out cap (i : Nat) hb (by omega) (by omega) (by omega)
  · rw [if_neg hb, if_neg hb]
    exact load_bad cap _ hb
theorem acheck_any : Calls Try.prog 13 #[.agg #[.slice A ws.length cap]] w fun e w' => e = .returned (.int .i64 (errA ws True)) ∧ Below w.heap.size w w' := by
  unfold errA
  by_cases hb : ws.length ≤ 16384
  · rw [if_pos hb, if_pos trivial]
    exact acheck_ok _ _ hb
  · rw [if_neg hb]
    exact acheck_bad _ _ hb
end
end Go.Proofs.Ytofkdpgnngbkfaa
