/- Plain facts of a table with open addressing: keys that are put, deleted; a table made anew. No program is named here. -/
import Derived.Test.YtdeopodfpeeenaaDoorY0
namespace Go.Proofs.YtdeopodfpeeenaaDoor
open Go
set_option linter.unusedVariables false
set_option linter.unusedSimpArgs false

def lay (l : List Es) (key val : Nat) : List Es := l.set (pl l key) ⟨1, key, val⟩
def delA (l : List Es) (a : Nat) : List Es := l.set a esG
def updA (l : List Es) (a val : Nat) : List Es := l.set a ⟨(nthE l a).s, (nthE l a).k, val⟩
theorem lay_len (l : List Es) (key val : Nat) : (lay l key val).length = l.length := by simp [lay]
theorem pl_spec {l : List Es} (hz : Sz l.length) (ho : ∃ i, i < l.length ∧ openB (nthE l i) = true) (key : Nat) :
    pl l key < l.length ∧ openB (nthE l (pl l key)) = true ∧ ∀ j, j < dst (hm key l.length) (pl l key) l.length → openB (nthE l ((hm key l.length + j) % l.length)) = false := by
  obtain ⟨i, hi, hq⟩ := ho
  have hl := hm_lt key hz
  have hs : sr l openB (hm key l.length) < l.length := by
    refine Classical.byContradiction fun hn => ?_
    have h9 : dst (hm key l.length) i l.length < sr l openB (hm key l.length) := Nat.lt_of_lt_of_le (dst_lt hl) (by omega)
    have := fst1_before (q := fun i' => openB (nthE l ((hm key l.length + i') % l.length))) h9
    simp only [dst_at hl hi] at this
    rw [hq] at this; cases this
  have hp : pl l key = (hm key l.length + sr l openB (hm key l.length)) % l.length := by unfold pl sa; rw [if_pos hs]
  have hp2 : pl l key < l.length := by rw [hp]; exact Nat.mod_lt _ hz.pos
  refine ⟨hp2, (sa_lt hp2).2.2, fun j hj => ?_⟩
  rw [hp, dst_eq hl hs] at hj
  exact fst1_before (q := fun i' => openB (nthE l ((hm key l.length + i') % l.length))) hj
theorem openB_iff {s : Es} : openB s = true ↔ s.s ≠ 1 := by unfold openB; simp
theorem openB_no {s : Es} : openB s = false ↔ s.s = 1 := by unfold openB; simp
/-- one slot is set -/
theorem xok_set {l : List Es} (hz : Sz l.length) (hx : ∀ i, i < l.length → xokS l i) {p : Nat} (hp : p < l.length) (u : Es) (h1 : u.s < 3 ∧ (u.s ≠ 1 → u.k = 0 ∧ u.v = 0)) (h0 : u.s ≠ 0)
    (hk : u.s = 1 → ∀ i, i < l.length → i ≠ p → isK u.k (nthE l i) = false) (hw : u.s = 1 → u.k ≠ 0 ∧ ∀ j, j < dst (hm u.k l.length) p l.length → (nthE l ((hm u.k l.length + j) % l.length)).s ≠ 0) :
    ∀ i, i < (l.set p u).length → xokS (l.set p u) i := by
  intro i hi
  have hlen : (l.set p u).length = l.length := List.length_set
  rw [hlen] at hi
  have hat : ∀ j, nthE (l.set p u) j = if j = p then u else nthE l j := fun j => nthE_set l p j u hp
  unfold xokS pth
  rw [hlen, hat i]
  by_cases e : i = p
  · subst e
    rw [if_pos rfl]
    refine ⟨h1, fun hs => ⟨(hw hs).1, ?_, fun j hj => ?_⟩⟩
    · unfold xfd
      rw [hlen]
      refine fst1_eq hi ?_ fun j hj => ?_
      · show isK u.k (nthE (l.set i u) i) = true
        rw [hat, if_pos rfl]
        exact isK_iff.2 ⟨hs, rfl⟩
      · show isK u.k (nthE (l.set i u) j) = false
        rw [hat, if_neg (by omega)]
        exact hk hs j (by omega) (by omega)
    · rw [hat]
      split
      · exact h0
      · exact (hw hs).2 j hj
  · rw [if_neg e]
    obtain ⟨x1, x2⟩ := hx i hi
    refine ⟨x1, fun hs => ?_⟩
    obtain ⟨y1, y2, y3⟩ := x2 hs
    refine ⟨y1, ?_, fun j hj => ?_⟩
    · refine Eq.trans ?_ y2
      unfold xfd
      rw [hlen]
      refine fst1_congr fun j hj => ?_
      show isK _ (nthE (l.set p u) j) = isK _ (nthE l j)
      rw [hat]
      by_cases ej : j = p
      · subst ej
        rw [if_pos rfl]
        have hki : isK (nthE l i).k (nthE l i) = true := isK_iff.2 ⟨hs, rfl⟩
        have a1 : isK (nthE l i).k u = false := by
          rw [isK_no]
          rintro ⟨u1, u2⟩
          have := hk u1 i hi e
          rw [u2, hki] at this; cases this
        have a2 : isK (nthE l i).k (nthE l j) = false := by
          by_cases hq : isK (nthE l i).k (nthE l j) = true
          · have q1 := (xok_hit hz hx j _ hp hq).2
            exact absurd (y2.symm.trans q1) e
          · simpa using hq
        rw [a1, a2]
      · rw [if_neg ej]
    · rw [hat]
      split
      · exact h0
      · exact y3 j hj
/-- a key has a value -/
def Has (l : List Es) (key v : Nat) : Prop := ∃ i, i < l.length ∧ isK key (nthE l i) = true ∧ (nthE l i).v = v
def lk (l : List Es) (key : Nat) : Option Nat := if xfd l key < l.length then some (nthE l (xfd l key)).v else none
theorem lk_iff {l : List Es} (hz : Sz l.length) (hx : ∀ i, i < l.length → xokS l i) (key v : Nat) : lk l key = some v ↔ Has l key v := by
  unfold lk
  constructor
  · intro h
    split at h
    · rename_i hlt
      injection h with h
      exact ⟨_, hlt, xfd_is hlt, h⟩
    · cases h
  · rintro ⟨i, hi, hk, rfl⟩
    have := (xok_hit hz hx i key hi hk).2
    rw [this, if_pos hi]
theorem has_set {l : List Es} {p : Nat} (hp : p < l.length) (u : Es) (key v : Nat) : Has (l.set p u) key v ↔ (isK key u = true ∧ u.v = v) ∨ ∃ i, i < l.length ∧ i ≠ p ∧ isK key (nthE l i) = true ∧ (nthE l i).v = v := by
  unfold Has
  rw [List.length_set]
  constructor
  · rintro ⟨i, hi, hk, hv⟩
    rw [nthE_set l p i u hp] at hk hv
    by_cases e : i = p
    · rw [if_pos e] at hk hv; exact .inl ⟨hk, hv⟩
    · rw [if_neg e] at hk hv; exact .inr ⟨i, hi, e, hk, hv⟩
  · rintro (⟨hk, hv⟩ | ⟨i, hi, e, hk, hv⟩)
    · exact ⟨p, hp, by rw [nthE_set l p p u hp, if_pos rfl]; exact hk, by rw [nthE_set l p p u hp, if_pos rfl]; exact hv⟩
    · exact ⟨i, hi, by rw [nthE_set l p i u hp, if_neg e]; exact hk, by rw [nthE_set l p i u hp, if_neg e]; exact hv⟩
/-- what a table may be, leaving aside how many slots are free -/
structure GoodT (l : List Es) : Prop where
  sz : Sz l.length
  x : ∀ i, i < l.length → xokS l i
theorem GoodT.has_one {l : List Es} (h : GoodT l) {key v v' : Nat} (h1 : Has l key v) (h2 : Has l key v') : v = v' := by
  have a := (lk_iff h.sz h.x key v).2 h1
  have b := (lk_iff h.sz h.x key v').2 h2
  rw [a] at b
  injection b
theorem GoodT.k0 {l : List Es} (h : GoodT l) {key v : Nat} (h1 : Has l key v) : key ≠ 0 := by
  obtain ⟨i, hi, hk, _⟩ := h1
  obtain ⟨k1, rfl⟩ := isK_iff.1 hk
  exact ((h.x i hi).2 k1).1
theorem noK {l : List Es} {key : Nat} (h : ¬ ∃ v, Has l key v) (i : Nat) (hi : i < l.length) : isK key (nthE l i) = false := by
  by_cases hq : isK key (nthE l i) = true
  · exact absurd ⟨_, i, hi, hq, rfl⟩ h
  · simpa using hq
/-- a new key -/
theorem GoodT.lay {l : List Es} (h : GoodT l) {key : Nat} (val : Nat) (h0 : key ≠ 0) (hn : ¬ ∃ v, Has l key v) (ho : useds l < l.length) :
    GoodT (lay l key val) ∧ useds (lay l key val) = useds l + 1 ∧ (∀ k v, Has (lay l key val) k v ↔ (k = key ∧ v = val) ∨ Has l k v) ∧ pl l key < l.length := by
  obtain ⟨p1, p2, p3⟩ := pl_spec h.sz (useds_lt ho) key
  rw [openB_iff] at p2
  have hx := xok_set h.sz h.x p1 ⟨1, key, val⟩ ⟨by show 1 < 3; omega, fun h => absurd rfl h⟩ (by show 1 ≠ 0; omega) (fun _ i hi _ => noK hn i hi) (fun _ => ⟨h0, fun j hj => by
    have := p3 j hj
    rw [openB_no] at this
    show (nthE l ((hm key l.length + j) % l.length)).s ≠ 0
    omega⟩)
  refine ⟨⟨by rw [lay_len]; exact h.sz, hx⟩, ?_, fun k v => ?_, p1⟩
  · have := useds_set l (pl l key) ⟨1, key, val⟩ p1
    rw [if_neg p2] at this
    simpa [Go.Proofs.YtdeopodfpeeenaaDoor.lay] using this
  · unfold Go.Proofs.YtdeopodfpeeenaaDoor.lay
    rw [has_set p1]
    constructor
    · rintro (⟨a, b⟩ | ⟨i, hi, _, hk, hv⟩)
      · exact .inl ⟨(isK_iff.1 a).2.symm, b.symm⟩
      · exact .inr ⟨i, hi, hk, hv⟩
    · rintro (⟨rfl, rfl⟩ | ⟨i, hi, hk, hv⟩)
      · exact .inl ⟨isK_iff.2 ⟨rfl, rfl⟩, rfl⟩
      · refine .inr ⟨i, hi, fun e => ?_, hk, hv⟩
        subst e
        exact p2 (isK_iff.1 hk).1
/-- a key that goes -/
theorem GoodT.del {l : List Es} (h : GoodT l) {key a : Nat} (ha : a < l.length) (hk : isK key (nthE l a) = true) :
    GoodT (delA l a) ∧ useds (delA l a) + 1 = useds l ∧ frees (delA l a) = frees l ∧ ∀ k v, Has (delA l a) k v ↔ k ≠ key ∧ Has l k v := by
  obtain ⟨k1, k2⟩ := isK_iff.1 hk
  have hx := xok_set h.sz h.x ha esG ⟨by decide, fun _ => ⟨rfl, rfl⟩⟩ (by decide) (fun h => by cases h) (fun h => by cases h)
  refine ⟨⟨by unfold delA; rw [List.length_set]; exact h.sz, hx⟩, ?_, ?_, fun k v => ?_⟩
  · have := useds_set l a esG ha
    rw [if_pos k1, if_neg (by decide)] at this
    simpa [delA] using this
  · have := frees_set l a esG ha
    rw [if_neg (by omega), if_neg (by decide)] at this
    simpa [delA] using this
  · unfold delA
    rw [has_set ha]
    constructor
    · rintro (⟨a1, _⟩ | ⟨i, hi, e, hk', hv⟩)
      · exact absurd (isK_iff.1 a1).1 (by decide)
      · refine ⟨fun ek => e ?_, i, hi, hk', hv⟩
        subst ek
        exact ((xok_hit h.sz h.x i k hi hk').2.symm).trans (xok_hit h.sz h.x a k ha hk).2
    · rintro ⟨e, i, hi, hk', hv⟩
      refine .inr ⟨i, hi, fun ei => e ?_, hk', hv⟩
      subst ei
      exact (isK_iff.1 hk').2.symm.trans k2
/-- a key's value is another one -/
theorem GoodT.upd {l : List Es} (h : GoodT l) {key a : Nat} (val : Nat) (ha : a < l.length) (hk : isK key (nthE l a) = true) :
    GoodT (updA l a val) ∧ useds (updA l a val) = useds l ∧ frees (updA l a val) = frees l ∧ ∀ k v, Has (updA l a val) k v ↔ (k = key ∧ v = val) ∨ (k ≠ key ∧ Has l k v) := by
  obtain ⟨k1, k2⟩ := isK_iff.1 hk
  obtain ⟨_, hx2⟩ := h.x a ha
  obtain ⟨z1, z2, z3⟩ := hx2 k1
  have huniq : ∀ i, i < l.length → isK key (nthE l i) = true → i = a := fun i hi hq => ((xok_hit h.sz h.x i key hi hq).2.symm).trans (xok_hit h.sz h.x a key ha hk).2
  have hx := xok_set h.sz h.x ha ⟨(nthE l a).s, (nthE l a).k, val⟩ ⟨by show (nthE l a).s < 3; omega, fun h => absurd k1 h⟩ (by show (nthE l a).s ≠ 0; omega) (fun _ i hi e => by
    show isK (nthE l a).k (nthE l i) = false
    rw [k2]
    by_cases hq : isK key (nthE l i) = true
    · exact absurd (huniq i hi hq) e
    · simpa using hq) (fun _ => ⟨z1, z3⟩)
  refine ⟨⟨by unfold updA; rw [List.length_set]; exact h.sz, hx⟩, ?_, ?_, fun k v => ?_⟩
  · have := useds_set l a ⟨(nthE l a).s, (nthE l a).k, val⟩ ha
    rw [if_pos k1] at this
    show useds (l.set a _) = _
    omega
  · have := frees_set l a ⟨(nthE l a).s, (nthE l a).k, val⟩ ha
    rw [if_neg (by omega)] at this
    show frees (l.set a _) = _
    omega
  · unfold updA
    rw [has_set ha]
    constructor
    · rintro (⟨a1, a2⟩ | ⟨i, hi, e, hk', hv⟩)
      · exact .inl ⟨(isK_iff.1 a1).2.symm.trans k2, a2.symm⟩
      · refine .inr ⟨fun ek => e ?_, i, hi, hk', hv⟩
        subst ek
        exact huniq i hi hk'
    · rintro (⟨rfl, rfl⟩ | ⟨e, i, hi, hk', hv⟩)
      · exact .inl ⟨isK_iff.2 ⟨k1, k2⟩, rfl⟩
      · refine .inr ⟨i, hi, fun ei => e ?_, hk', hv⟩
        subst ei
        exact (isK_iff.1 hk').2.symm.trans k2

/-- the slots of a table made anew; the table -/
def szN (u : Nat) : Nat := if 2 * (u + 1) ≤ 8 then 8 else if 2 * (u + 1) ≤ 16 then 16 else if 2 * (u + 1) ≤ 32 then 32 else if 2 * (u + 1) ≤ 64 then 64 else 128
def us (l : List Es) : List Es := l.filter fun s => s.s == 1
def rebK (l : List Es) (n k : Nat) : List Es := ((us l).take k).foldl (fun acc s => lay acc s.k s.v) (List.replicate n es0)
def reb (l : List Es) (n : Nat) : List Es := rebK l n (us l).length
theorem us_len (l : List Es) : (us l).length = useds l := by unfold us useds; rw [List.countP_eq_length_filter]
theorem rebK_succ (l : List Es) (n k : Nat) (hk : k < (us l).length) : rebK l n (k + 1) = lay (rebK l n k) (nthE (us l) k).k (nthE (us l) k).v := by
  unfold rebK
  rw [take_nthE _ _ hk, List.foldl_append]
  rfl
theorem rebK_len (l : List Es) (n k : Nat) : (rebK l n k).length = n := by
  unfold rebK
  generalize (us l).take k = us
  suffices h : ∀ (acc : List Es), (us.foldl (fun acc s => lay acc s.k s.v) acc).length = acc.length by rw [h]; simp
  induction us with
  | nil => intro acc; rfl
  | cons x xs ih => intro acc; rw [List.foldl_cons, ih, lay_len]
theorem nthE_rep (n i : Nat) : nthE (List.replicate n es0) i = es0 := by
  unfold nthE
  rw [List.getD_eq_getElem?_getD, List.getElem?_replicate]
  split <;> rfl
theorem good_rep {n : Nat} (hz : Sz n) : GoodT (List.replicate n es0) := by
  refine ⟨by simpa using hz, fun i hi => ?_⟩
  unfold xokS
  rw [nthE_rep]
  exact ⟨⟨by decide, fun _ => ⟨rfl, rfl⟩⟩, fun h => by cases h⟩
theorem useds_rep (n : Nat) : useds (List.replicate n es0) = 0 := by
  unfold useds
  rw [List.countP_eq_zero]
  intro x hx
  rw [List.eq_of_mem_replicate hx]
  decide
theorem us_get {l : List Es} {k : Nat} (hk : k < (us l).length) : ∃ i, i < l.length ∧ isK (nthE (us l) k).k (nthE l i) = true ∧ (nthE l i).v = (nthE (us l) k).v := by
  have hm := nthE_mem (us l) k hk
  unfold us at hm
  rw [List.mem_filter] at hm
  obtain ⟨h1, h2⟩ := hm
  obtain ⟨i, hi, e⟩ := List.getElem_of_mem h1
  have h2 : (nthE (us l) k).s = 1 := by simpa [us] using h2
  exact ⟨i, hi, by rw [nthE_get l i hi, e]; exact isK_iff.2 ⟨h2, rfl⟩, by rw [nthE_get l i hi, e]; rfl⟩
theorem us_has {l : List Es} {k v : Nat} : Has l k v ↔ ∃ j, j < (us l).length ∧ (nthE (us l) j).k = k ∧ (nthE (us l) j).v = v := by
  constructor
  · rintro ⟨i, hi, hk, hv⟩
    have hm : nthE l i ∈ us l := by
      unfold us
      rw [List.mem_filter]
      exact ⟨nthE_mem l i hi, by simpa using (isK_iff.1 hk).1⟩
    obtain ⟨j, hj, e⟩ := List.getElem_of_mem hm
    exact ⟨j, hj, by rw [nthE_get _ _ hj, e]; exact (isK_iff.1 hk).2, by rw [nthE_get _ _ hj, e]; exact hv⟩
  · rintro ⟨j, hj, rfl, rfl⟩
    exact us_get hj
theorem us_pair {l : List Es} (h : GoodT l) : (us l).Pairwise fun a b => a.k ≠ b.k := by
  have : l.Pairwise fun a b => (a.s == 1) = true → (b.s == 1) = true → a.k ≠ b.k := by
    rw [List.pairwise_iff_getElem]
    intro i j hi hj hij h1 h2 e
    have a1 : isK (nthE l i).k (nthE l i) = true := isK_iff.2 ⟨by rw [nthE_get l i hi]; simpa using h1, rfl⟩
    have a2 : isK (nthE l i).k (nthE l j) = true := isK_iff.2 ⟨by rw [nthE_get l j hj]; simpa using h2, by rw [nthE_get l i hi, nthE_get l j hj]; exact e.symm⟩
    have := ((xok_hit h.sz h.x i _ hi a1).2.symm).trans (xok_hit h.sz h.x j _ hj a2).2
    omega
  unfold us
  rw [List.pairwise_filter]
  exact this.imp fun h a b => h a b
theorem us_ne {l : List Es} (h : GoodT l) {i j : Nat} (hij : i < j) (hj : j < (us l).length) : (nthE (us l) i).k ≠ (nthE (us l) j).k := by
  have := List.pairwise_iff_getElem.1 (us_pair h) i j (by omega) hj hij
  rw [nthE_get _ _ hj, nthE_get _ _ (by omega : i < (us l).length)]
  exact this
theorem rebK_inv {l : List Es} (h : GoodT l) {n : Nat} (hz : Sz n) (hl : (us l).length < n) (k : Nat) (hk : k ≤ (us l).length) :
    GoodT (rebK l n k) ∧ useds (rebK l n k) = k ∧ frees (rebK l n k) + k = n ∧ ∀ key v, Has (rebK l n k) key v ↔ ∃ j, j < k ∧ (nthE (us l) j).k = key ∧ (nthE (us l) j).v = v := by
  induction k with
  | zero =>
    have e : rebK l n 0 = List.replicate n es0 := rfl
    rw [e]
    refine ⟨good_rep hz, useds_rep n, ?_, fun key v => ⟨?_, ?_⟩⟩
    · unfold frees
      rw [Nat.add_zero]
      have : (List.replicate n es0).countP (fun s => s.s == 0) = (List.replicate n es0).length := by
        rw [List.countP_eq_length]
        intro x hx
        rw [List.eq_of_mem_replicate hx]
        decide
      rw [this]; simp
    · rintro ⟨i, hi, hk', _⟩
      rw [nthE_rep] at hk'
      exact absurd (isK_iff.1 hk').1 (by decide)
    · rintro ⟨j, hj, _⟩; omega
  | succ k ih =>
    obtain ⟨g, u, f, hh⟩ := ih (by omega)
    rw [rebK_succ l n k (by omega)]
    have hlen := rebK_len l n k
    have h0 : (nthE (us l) k).k ≠ 0 := h.k0 (us_has.2 ⟨k, by omega, rfl, rfl⟩)
    have hn : ¬ ∃ v, Has (rebK l n k) (nthE (us l) k).k v := by
      rintro ⟨v, hv⟩
      obtain ⟨j, hj, e, _⟩ := (hh _ _).1 hv
      exact us_ne h hj (by omega) e
    obtain ⟨q1, q2, q3, q4⟩ := g.lay (nthE (us l) k).v h0 hn (by omega)
    refine ⟨q1, by omega, ?_, fun key v => ?_⟩
    · have hgp := pl_spec g.sz (useds_lt (by omega)) (nthE (us l) k).k
      have := frees_set (rebK l n k) (pl (rebK l n k) (nthE (us l) k).k) ⟨1, (nthE (us l) k).k, (nthE (us l) k).v⟩ hgp.1
      have hall : (nthE (rebK l n k) (pl (rebK l n k) (nthE (us l) k).k)).s = 0 := by
        -- used and free are all there are
        refine Classical.byContradiction fun hs => ?_
        have hs1 := openB_iff.1 hgp.2.1
        have hc : ∀ (m : List Es), frees m + useds m ≤ m.length := fun m => by
          unfold frees useds
          induction m with
          | nil => simp
          | cons x xs ih2 =>
            simp only [List.countP_cons, List.length_cons]
            by_cases a : x.s = 0 <;> by_cases b : x.s = 1 <;> simp [a, b] <;> omega
        have hc2 := hc (delA (rebK l n k) (pl (rebK l n k) (nthE (us l) k).k))
        have e1 := frees_set (rebK l n k) (pl (rebK l n k) (nthE (us l) k).k) es0 hgp.1
        have e2 := useds_set (rebK l n k) (pl (rebK l n k) (nthE (us l) k).k) es0 hgp.1
        rw [if_neg hs, if_pos (by rfl)] at e1
        rw [if_neg hs1, if_neg (by decide)] at e2
        have hc3 := hc ((rebK l n k).set (pl (rebK l n k) (nthE (us l) k).k) es0)
        rw [List.length_set] at hc3
        omega
      rw [if_pos hall, if_neg (by show ¬ 1 = 0; omega)] at this
      show frees ((rebK l n k).set _ _) + (k + 1) = n
      omega
    · rw [q3, hh]
      constructor
      · rintro (⟨rfl, rfl⟩ | ⟨j, hj, e1, e2⟩)
        · exact ⟨k, by omega, rfl, rfl⟩
        · exact ⟨j, by omega, e1, e2⟩
      · rintro ⟨j, hj, e1, e2⟩
        by_cases ej : j = k
        · subst ej; exact .inl ⟨e1.symm, e2.symm⟩
        · exact .inr ⟨j, by omega, e1, e2⟩
end Go.Proofs.YtdeopodfpeeenaaDoor
