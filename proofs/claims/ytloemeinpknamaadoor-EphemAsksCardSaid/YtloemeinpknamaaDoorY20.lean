/- What becomes of a table: plain facts for the laws; the tables of the questions whose answers the document gives. -/
import Derived.Test.YtloemeinpknamaaDoorY19
namespace Go.Proofs.YtloemeinpknamaaDoor
open Go.RowKit
set_option linter.unusedVariables false
set_option linter.unusedSimpArgs false

theorem has_nil (k v : Nat) : ¬ Has [] k v := by rintro ⟨i, hi, _⟩; simp at hi
theorem OkT.has_fd {l : List Es} (h : OkT l) (key v : Nat) : Has l key v ↔ fd l key < l.length ∧ v = (nthE l (fd l key)).v := by
  constructor
  · rintro ⟨i, hi, hk, rfl⟩
    have e := (h.hit hi hk).1
    rw [e]; exact ⟨hi, rfl⟩
  · rintro ⟨hf, rfl⟩
    exact ⟨_, hf, fd_is hf, rfl⟩
/-- a key has one value at most, and is not 0 -/
theorem OkT.one {l : List Es} (h : OkT l) {k v v' : Nat} (h1 : Has l k v) (h2 : Has l k v') : v = v' := by
  rw [h.has_fd] at h1 h2
  rw [h1.2, h2.2]
theorem OkT.hk0 {l : List Es} (h : OkT l) {k v : Nat} (h1 : Has l k v) : k ≠ 0 := by
  obtain ⟨i, hi, hk, hv⟩ := h1
  exact (h.good (by omega)).k0 ⟨i, hi, hk, hv⟩
/-- what Put does, where it does -/
structure PutOk (l : List Es) (key val : Nat) (r : List Es) : Prop where
  okl : OkT l
  k0 : key ≠ 0
  okr : OkT r
  has : ∀ k v, Has r k v ↔ (k = key ∧ v = val) ∨ (k ≠ key ∧ Has l k v)
  old : (∃ v, Has l key v) → useds r = useds l
  new : (¬ ∃ v, Has l key v) → useds r = useds l + 1
theorem has_split {l : List Es} {key val : Nat} (hn : ¬ ∃ v, Has l key v) (k v : Nat) : ((k = key ∧ v = val) ∨ Has l k v) ↔ (k = key ∧ v = val) ∨ (k ≠ key ∧ Has l k v) := by
  constructor
  · rintro (h | h)
    · exact .inl h
    · exact .inr ⟨fun e => hn ⟨v, by rw [← e]; exact h⟩, h⟩
  · rintro (h | h)
    · exact .inl h
    · exact .inr h.2
theorem reb_good {l : List Es} (h : OkT l) (hs : szN (us l).length ≤ 64) : GoodT (reb l (szN (us l).length)) ∧ useds (reb l (szN (us l).length)) = useds l ∧ frees (reb l (szN (us l).length)) + useds l = szN (us l).length ∧ ∀ k v, Has (reb l (szN (us l).length)) k v ↔ Has l k v := by
  have hz := szN_sz hs
  have h2 := szN_u hs
  by_cases hu : 0 < (us l).length
  · obtain ⟨a, b, c, d⟩ := rebK_inv (h.gd hu) hz (by omega) (us l).length (Nat.le_refl _)
    refine ⟨a, b.trans (us_len l), by rw [← us_len]; exact c, fun k v => ?_⟩
    unfold reb
    rw [d, us_has]
  · have e0 : reb l (szN (us l).length) = List.replicate (szN (us l).length) es0 := by
      unfold reb rebK
      rw [show (us l).length = 0 by omega]
      rfl
    have hul : useds l = 0 := by rw [← us_len]; omega
    rw [e0]
    refine ⟨good_rep hz, by rw [useds_rep, hul], ?_, fun k v => ⟨?_, ?_⟩⟩
    · have : frees (List.replicate (szN (us l).length) es0) = (List.replicate (szN (us l).length) es0).length := by
        unfold frees
        rw [List.countP_eq_length]
        intro x hx
        rw [List.eq_of_mem_replicate hx]
        decide
      rw [this, hul]; simp
    · rintro ⟨i, hi, hk, _⟩
      rw [nthE_rep] at hk
      exact absurd (isK_iff.1 hk).1 (by decide)
    · intro h9
      rw [us_has] at h9
      obtain ⟨j, hj, _⟩ := h9
      omega
theorem PutT.ok {l : List Es} {key val : Nat} {r : List Es} {y : Int} (h : PutT l key val r y) (hy : y = 0) : PutOk l key val r := by
  subst hy
  rcases h with ⟨_, _, e⟩ | ⟨_, _, _, e⟩ | ⟨hok, h0, hf, rfl, _⟩ | ⟨hok, h0, hf, ha, rfl, _⟩ | ⟨_, _, _, _, _, _, e⟩ | ⟨hok, h0, hf, ha, hs, rfl, _⟩
  · cases e
  · cases e
  · have hg := hok.good (by omega)
    obtain ⟨a, b, c, d⟩ := hg.upd val hf (fd_is hf)
    have h3 := (hok.x (by omega)).2.2
    have hlen : (updA l (fd l key) val).length = l.length := by unfold updA; simp
    exact ⟨hok, h0, .of_x a.sz a.x (by rw [c, hlen]; exact h3), d, fun _ => b, fun hn => absurd ⟨_, (hok.has_fd key _).2 ⟨hf, rfl⟩⟩ hn⟩
  · have hn : ¬ ∃ v, Has l key v := fun ⟨v, hv⟩ => hf ((hok.has_fd key v).1 hv).1
    have hg := hok.good (by have := ha.1; omega)
    have h3 := (hok.x (by have := ha.1; omega)).2.2
    have hfu := fu_le l
    obtain ⟨a, b, c, d⟩ := hg.lay val h0 hn (by have := ha.1; omega)
    exact ⟨hok, h0, .of_x a.sz a.x (by rw [lay_len, frees_lay2 l key val 0]; exact ha.2), fun k v => (c k v).trans (has_split hn k v), fun h9 => absurd h9 hn, fun _ => b⟩
  · cases e
  · have hn : ¬ ∃ v, Has l key v := fun ⟨v, hv⟩ => hf ((hok.has_fd key v).1 hv).1
    obtain ⟨g1, g2, g3, g4⟩ := reb_good hok hs
    have h2 := szN_u hs
    have hul := us_len l
    have hlen : (reb l (szN (us l).length)).length = szN (us l).length := rebK_len _ _ _
    have hn' : ¬ ∃ v, Has (reb l (szN (us l).length)) key v := fun ⟨v, hv⟩ => hn ⟨v, (g4 _ _).1 hv⟩
    obtain ⟨a, b, c, d⟩ := g1.lay val h0 hn' (by omega)
    have hfl := frees_lay d val
    refine ⟨hok, h0, .of_x a.sz a.x (by rw [lay_len]; split at hfl <;> omega), fun k v => (c k v).trans ?_, fun h9 => absurd h9 hn, fun _ => by rw [b, g2]⟩
    rw [g4]
    exact has_split hn k v
theorem PutT.no {l : List Es} {key val : Nat} {r : List Es} {y : Int} (h : PutT l key val r y) (hy : y ≠ 0) : (¬ OkT l ∧ r = [] ∧ y = 2) ∨ (OkT l ∧ r = l ∧ (key = 0 ∧ y = 7 ∨ y = 6 ∧ 64 < szN (us l).length)) := by
  rcases h with h | ⟨a, b, c, d⟩ | ⟨_, _, _, _, e⟩ | ⟨_, _, _, _, _, e⟩ | ⟨a, b, c, d, e, f, g⟩ | ⟨_, _, _, _, _, _, e⟩
  · exact .inl h
  · exact .inr ⟨a, c, .inl ⟨b, d⟩⟩
  · exact absurd e hy
  · exact absurd e hy
  · exact .inr ⟨a, f, .inr ⟨g, e⟩⟩
  · exact absurd e hy
theorem PutT.room {l : List Es} {key val : Nat} {r : List Es} {y : Int} (h : PutT l key val r y) (hok : OkT l) (hk : key ≠ 0) (hu : useds l ≤ 31) : y = 0 := by
  refine Classical.byContradiction fun hy => ?_
  rcases h.no hy with ⟨h9, _⟩ | ⟨_, _, ⟨h9, _⟩ | ⟨_, h9⟩⟩
  · exact h9 hok
  · exact hk h9
  · rw [us_len] at h9
    have := szN_cases (useds l)
    omega
/-- what Del of one key does -/
structure DelOk (l : List Es) (key : Nat) (r : List Es) (n : Nat) : Prop where
  okr : OkT r
  has : ∀ k v, Has r k v ↔ k ≠ key ∧ Has l k v
  hit : (∃ v, Has l key v) → n = 1 ∧ useds r + 1 = useds l
  miss : (¬ ∃ v, Has l key v) → n = 0 ∧ useds r = useds l
theorem DelT.ok {l : List Es} {key : Nat} {r : List Es} {n : Nat} {y : Int} (h : DelT l [key] r n y) (hok : OkT l) : DelOk l key r n ∧ y = 0 := by
  rcases h with ⟨h9, _⟩ | ⟨_, rfl, rfl, rfl⟩
  · exact absurd hok h9
  · refine ⟨?_, rfl⟩
    show DelOk l key (delK l key) (0 + if fd l key < l.length then 1 else 0)
    by_cases hf : fd l key < l.length
    · have e : delK l key = delA l (fd l key) := by unfold delK; rw [if_pos hf]
      obtain ⟨a, b, c, d⟩ := (hok.good (by omega)).del hf (fd_is hf)
      rw [if_pos hf, e]
      exact ⟨by rw [← e]; exact hok.delK key, d, fun _ => ⟨rfl, b⟩, fun hn => absurd ⟨_, (hok.has_fd key _).2 ⟨hf, rfl⟩⟩ hn⟩
    · have e : delK l key = l := by unfold delK; rw [if_neg hf]
      have hn : ¬ ∃ v, Has l key v := fun ⟨v, hv⟩ => hf ((hok.has_fd key v).1 hv).1
      rw [if_neg hf, e]
      exact ⟨hok, fun k v => ⟨fun h => ⟨fun ek => hn ⟨v, by rw [← ek]; exact h⟩, h⟩, fun h => h.2⟩, fun h => absurd h hn, fun _ => ⟨rfl, rfl⟩⟩
theorem GetT.has {l : List Es} {key v : Nat} {y : Int} (h : GetT l key v y) (hok : OkT l) : (y = 0 ∧ Has l key v) ∨ ((y = 3 ∧ key ≠ 0 ∨ y = 7 ∧ key = 0) ∧ v = 0 ∧ ¬ ∃ v, Has l key v) := by
  rcases h with ⟨h9, _⟩ | ⟨_, h0, hv, hy⟩ | ⟨_, h0, hf, hv, hy⟩ | ⟨_, h0, hf, hv, hy⟩
  · exact absurd hok h9
  · exact .inr ⟨.inr ⟨hy, h0⟩, hv, fun ⟨v, h9⟩ => hok.hk0 h9 h0⟩
  · exact .inr ⟨.inl ⟨hy, h0⟩, hv, fun ⟨v, h9⟩ => hf ((hok.has_fd key v).1 h9).1⟩
  · exact .inl ⟨hy, (hok.has_fd key v).2 ⟨hf, hv⟩⟩
theorem GetT.of_has {l : List Es} {key v : Nat} (hok : OkT l) (h : Has l key v) : GetT l key v 0 := by
  have := (hok.has_fd key v).1 h
  exact .inr (.inr (.inr ⟨hok, hok.hk0 h, this.1, this.2, rfl⟩))
theorem GetT.of_no {l : List Es} {key : Nat} (hok : OkT l) (h0 : key ≠ 0) (h : ¬ ∃ v, Has l key v) : GetT l key 0 3 :=
  .inr (.inr (.inl ⟨hok, h0, fun hf => h ⟨_, (hok.has_fd key _).2 ⟨hf, rfl⟩⟩, rfl, rfl⟩))
theorem okT_nil : OkT [] := .inl rfl

/-- the tables of the questions -/
def tA : List Es := lay (reb [] 8) 1 10
def tB : List Es := lay tA 2 20
def tC : List Es := updA tB (fd tB 1) 11
def tD : List Es := dlK tC [2, 3] 2
theorem putA : PutT [] 1 10 tA 0 := .inr (.inr (.inr (.inr (.inr ⟨okT_nil, by decide, by decide, fun h => absurd h.1 (by decide), by decide, rfl, rfl⟩))))
theorem okA : OkT tA := (putA.ok rfl).okr
theorem lenA : tA.length = 8 := by kernel_rfl
theorem lenB : tB.length = 8 := by kernel_rfl
theorem lenC : tC.length = 8 := by kernel_rfl
theorem lenD : tD.length = 8 := by kernel_rfl
theorem putB : PutT tA 2 20 tB 0 := .inr (.inr (.inr (.inl ⟨okA, by decide, of_decide_eq_true (by kernel_rfl), ⟨of_decide_eq_true (by kernel_rfl), of_decide_eq_true (by kernel_rfl)⟩, rfl, rfl⟩)))
theorem okB : OkT tB := (putB.ok rfl).okr
theorem putC : PutT tB 1 11 tC 0 := .inr (.inr (.inl ⟨okB, by decide, of_decide_eq_true (by kernel_rfl), rfl, rfl⟩))
theorem okC : OkT tC := (putC.ok rfl).okr
theorem getC : GetT tC 1 11 0 := .inr (.inr (.inr ⟨okC, by decide, of_decide_eq_true (by kernel_rfl), of_decide_eq_true (by kernel_rfl), rfl⟩))
theorem delC : DelT tC [2, 3] tD 1 0 := .inr ⟨okC, rfl, of_decide_eq_true (by kernel_rfl), rfl⟩
theorem okD : OkT tD := okC.dlK [2, 3] 2
theorem getD2 : GetT tD 2 0 3 := .inr (.inr (.inl ⟨okD, by decide, of_decide_eq_true (by kernel_rfl), rfl, rfl⟩))
theorem putC0 : PutT tC 0 1 tC 7 := .inr (.inl ⟨okC, rfl, rfl, rfl⟩)
theorem hm18 : hm 1 8 = 4 := by kernel_rfl
theorem usC : us tC = [⟨1, 2, 20⟩, ⟨1, 1, 11⟩] := by kernel_rfl
theorem srtC {vs : List Es} (h : Srt tC vs) : vs.length = 2 ∧ (nthE vs 1).v = 20 := by
  obtain ⟨hp, hs⟩ := h
  rw [usC] at hp
  have hl : vs.length = 2 := hp.length_eq
  obtain ⟨a, b, rfl⟩ : ∃ a b, vs = [a, b] := by
    match vs, hl with
    | [a, b], _ => exact ⟨a, b, rfl⟩
  have h1 := hs 0 1 (by omega) (by simp)
  have ha : a ∈ [(⟨1, 2, 20⟩ : Es), ⟨1, 1, 11⟩] := hp.mem_iff.1 (by simp)
  have hb : b ∈ [(⟨1, 2, 20⟩ : Es), ⟨1, 1, 11⟩] := hp.mem_iff.1 (by simp)
  have hc : (⟨1, 2, 20⟩ : Es) ∈ [a, b] := hp.mem_iff.2 (by simp)
  have hd : (⟨1, 1, 11⟩ : Es) ∈ [a, b] := hp.mem_iff.2 (by simp)
  have h1 : a.k ≤ b.k := h1
  refine ⟨rfl, ?_⟩
  show b.v = 20
  simp only [List.mem_cons, List.not_mem_nil, or_false] at ha hb hc hd
  rcases ha with rfl | rfl
  · rcases hd with h | h
    · injection h with _ h _; omega
    · subst h; simp at h1
  · rcases hc with h | h
    · injection h with _ h _; omega
    · subst h; rfl
end Go.Proofs.YtloemeinpknamaaDoor
