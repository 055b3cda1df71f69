/- special.Addrs, whatever specials are; the document's where they are not right. -/
import Derived.Test.YtamnfgpoelbgcaaV31
namespace Go.Proofs.Ytamnfgpoelbgcaa
open Go.RowKit
set_option linter.unusedVariables false
set_option linter.unusedSimpArgs false

/-- words lie at A, if there are any -/
def WRow (w : World) (A : Option Addr) (xs : List Int) : Prop := 0 < xs.length → ∃ g, A = some ⟨g, 0, none⟩ ∧ g < w.heap.size ∧ ∀ i, i < xs.length → w.cell? ⟨g, i, none⟩ = some (.int .u64 (xs.getD i 0))
theorem WRow.later {w w' : World} {A : Option Addr} {xs : List Int} (h : WRow w A xs) (hb : Below w.heap.size w w') : WRow w' A xs := fun hl => by
  obtain ⟨g, e, hg, hc⟩ := h hl
  exact ⟨g, e, Nat.lt_of_lt_of_le hg hb.size, fun i hi => ((bcell hb).1 _ _ hg).trans (hc i hi)⟩
theorem WRow.of_wi {w : World} {g : Nat} {xs : List Int} (h : WI w g xs) (hg : g < w.heap.size) : WRow w (some ⟨g, 0, none⟩) xs := fun _ => ⟨g, rfl, hg, fun i hi => (h.at_ i hi).1⟩
theorem WRow.of_owns {w : World} {B n cap : Nat} {A : Option Addr} {xs : List Int} (h : w.ownsRow B 23 1 (.slice A n cap) n (intsV xs)) (hn : xs.length = n) : WRow w A xs := fun hl => by
  obtain ⟨_, ⟨h1, h2⟩ | ⟨g, cap', cur, e, h1, hg, h2, _⟩⟩ := id h
  · omega
  · injection e with e1 _ e3
    subst e1 e3
    exact ⟨g, rfl, heap_lt hg, fun i hi => ((WI.of_owns h hn).at_ i hi).1⟩
theorem first_dup (xs : List Int) (n : Nat) : (∀ j, j + 1 < n → xs.getD j 0 ≠ xs.getD (j + 1) 0) ∨ ∃ k, k + 1 < n ∧ (∀ j, j < k → xs.getD j 0 ≠ xs.getD (j + 1) 0) ∧ xs.getD k 0 = xs.getD (k + 1) 0 := by
  rcases first_bad (fun j => xs.getD j 0 ≠ xs.getD (j + 1) 0) (n - 1) with h | ⟨k, h1, h2, h3⟩
  · exact .inl fun j hj => h j (by omega)
  · exact .inr ⟨k, by omega, h2, by simpa using h3⟩
theorem ccompact_any {w : World} {B n cap : Nat} {A : Option Addr} {xs : List Int} (h : w.ownsRow B 23 1 (.slice A n cap) n (intsV xs)) (hn : xs.length = n) (hcc : n ≤ 1000000) :
    Calls Try.prog 31 #[.slice A n cap] w fun e w' => ∃ A' c', e = .returned (.slice A' (cmpI xs).length c') ∧ WRow w' A' (cmpI xs) ∧ (B ≤ w.heap.size → Below B w w') := by
  by_cases h0 : n = 0
  · have : xs = [] := List.eq_nil_of_length_eq_zero (hn.trans h0)
    subst this
    subst h0
    go_enter Try.func31, Try.ntmps31
    go_wp2
    go_ret
    exact ⟨A, cap, rfl, fun h => by simp [cmpI] at h, fun _ => Below.refl _ _⟩
  · obtain ⟨_, ⟨h1, h2⟩ | ⟨g, cap', cur, e, h1, hg, h2, _⟩⟩ := id h
    · omega
    · injection e with e1 _ e3
      subst e1 e3
      have hgl := heap_lt hg
      have hwi := WI.of_owns h hn
      rcases first_dup xs n with hd | ⟨k, k1, k2, k3⟩
      · have hs := cmp_same xs n (by omega) hd
        rw [← hn, List.take_length] at hs
        refine (ccompact_flat cap hwi hn hgl (by omega) hcc hd).mono ?_
        rintro e w' ⟨rfl, hW, hb⟩
        exact ⟨_, cap, by rw [hs, hn], by rw [hs]; exact WRow.of_wi hW (Nat.lt_of_lt_of_le hgl hb.size), fun hB => hb.mono hB⟩
      · refine (ccompact_dups cap hwi hn hgl (by omega) hcc k k1 k2 k3).mono ?_
        rintro e w' ⟨c', rfl, hW, hb⟩
        exact ⟨_, c', rfl, WRow.of_wi hW (Nat.lt_of_lt_of_le hgl hb.size), fun _ => hb.mono h1⟩
end Go.Proofs.Ytamnfgpoelbgcaa
