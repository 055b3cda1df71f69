/- Plain facts of a table with open addressing: no program is named here. -/
import Derived.Test.YtdeopodfpeeenaaDoorBase
namespace Go.Proofs.YtdeopodfpeeenaaDoor
open Go
set_option linter.unusedVariables false
set_option linter.unusedSimpArgs false

/-- a slot: what it is, its key, its value -/
structure Es where
  s : Nat
  k : Nat
  v : Nat
def es0 : Es := ⟨0, 0, 0⟩
def esG : Es := ⟨2, 0, 0⟩
def nthE (l : List Es) (i : Nat) : Es := l.getD i es0
theorem nthE_get (l : List Es) (i : Nat) (h : i < l.length) : nthE l i = l[i] := by
  unfold nthE
  rw [List.getD_eq_getElem?_getD, List.getElem?_eq_getElem h]
  rfl
theorem nthE_set (l : List Es) (a i : Nat) (u : Es) (ha : a < l.length) : nthE (l.set a u) i = if i = a then u else nthE l i := by
  unfold nthE
  simp only [List.getD_eq_getElem?_getD, List.getElem?_set]
  by_cases e : i = a
  · subst e; simp [ha]
  · rw [if_neg e, if_neg (fun h => e h.symm)]
theorem nthE_mem (l : List Es) (i : Nat) (h : i < l.length) : nthE l i ∈ l := by
  rw [nthE_get l i h]
  exact List.getElem_mem h
theorem nthE_take (l : List Es) (i j : Nat) (h : j < i) : nthE (l.take i) j = nthE l j := by
  unfold nthE
  simp only [List.getD_eq_getElem?_getD]
  rw [List.getElem?_take_of_lt h]
theorem take_nthE (l : List Es) (i : Nat) (h : i < l.length) : l.take (i + 1) = l.take i ++ [nthE l i] := by
  rw [nthE_get l i h, List.take_add_one, List.getElem?_eq_getElem h]
  rfl
theorem ext_nthE (l m : List Es) (h : l.length = m.length) (hh : ∀ i, i < l.length → nthE l i = nthE m i) : l = m := by
  apply List.ext_getElem h
  intro i h1 h2
  have := hh i h1
  rwa [nthE_get l i h1, nthE_get m i h2] at this

/-- the first of n numbers of which q says yes; n: there is none -/
def fst1 : Nat → (Nat → Bool) → Nat
  | 0, _ => 0
  | n + 1, q => if fst1 n q < n then fst1 n q else if q n then n else n + 1
theorem fst1_spec (n : Nat) (q : Nat → Bool) : fst1 n q ≤ n ∧ (∀ j, j < fst1 n q → q j = false) ∧ (fst1 n q < n → q (fst1 n q) = true) := by
  induction n with
  | zero => exact ⟨Nat.le_refl _, fun j hj => by simp [fst1] at hj, fun h => by simp [fst1] at h⟩
  | succ n ih =>
    obtain ⟨h1, h2, h3⟩ := ih
    unfold fst1
    by_cases h : fst1 n q < n
    · rw [if_pos h]
      exact ⟨by omega, h2, fun _ => h3 h⟩
    · rw [if_neg h]
      have e : fst1 n q = n := by omega
      rw [e] at h2
      by_cases hq : q n = true
      · rw [if_pos hq]
        exact ⟨by omega, h2, fun _ => hq⟩
      · rw [if_neg hq]
        refine ⟨Nat.le_refl _, fun j hj => ?_, fun h => by omega⟩
        by_cases ej : j = n
        · subst ej; simpa using hq
        · exact h2 j (by omega)
theorem fst1_le (n : Nat) (q : Nat → Bool) : fst1 n q ≤ n := (fst1_spec n q).1
theorem fst1_before {n : Nat} {q : Nat → Bool} {j : Nat} (h : j < fst1 n q) : q j = false := (fst1_spec n q).2.1 j h
theorem fst1_at {n : Nat} {q : Nat → Bool} (h : fst1 n q < n) : q (fst1 n q) = true := (fst1_spec n q).2.2 h
theorem fst1_eq {n i : Nat} {q : Nat → Bool} (hi : i < n) (h : q i = true) (hb : ∀ j, j < i → q j = false) : fst1 n q = i := by
  rcases Nat.lt_trichotomy (fst1 n q) i with hlt | he | hgt
  · have := fst1_at (n := n) (q := q) (by omega)
    rw [hb _ hlt] at this; cases this
  · exact he
  · have := fst1_before hgt
    rw [h] at this; cases this
theorem fst1_none {n : Nat} {q : Nat → Bool} (h : ∀ j, j < n → q j = false) : fst1 n q = n := by
  by_cases hlt : fst1 n q < n
  · have := fst1_at hlt
    rw [h _ hlt] at this; cases this
  · have := fst1_le n q; omega
theorem fst1_congr {n : Nat} {q r : Nat → Bool} (h : ∀ j, j < n → q j = r j) : fst1 n q = fst1 n r := by
  by_cases hlt : fst1 n r < n
  · exact fst1_eq hlt (by rw [h _ hlt]; exact fst1_at hlt) fun j hj => by rw [h j (by omega)]; exact fst1_before hj
  · have e : fst1 n r = n := by have := fst1_le n r; omega
    rw [e]
    exact fst1_none fun j hj => by
      have h9 : j < fst1 n r := by omega
      rw [h j hj]; exact fst1_before h9

/-- the factor; where a key would stand -/
def FAC : Nat := 11400714819323198485
def hm (key n : Nat) : Nat := key * FAC % W64 / (W64 / n)
def Sz (n : Nat) : Prop := n = 8 ∨ n = 16 ∨ n = 32 ∨ n = 64
instance (n : Nat) : Decidable (Sz n) := inferInstanceAs (Decidable (_ ∨ _))
theorem Sz.pos {n : Nat} (h : Sz n) : 0 < n := by unfold Sz at h; omega
theorem Sz.le {n : Nat} (h : Sz n) : n ≤ 64 := by unfold Sz at h; omega
theorem hm_lt {n : Nat} (key : Nat) (h : Sz n) : hm key n < n := by
  unfold hm
  have hlt : key * FAC % W64 < W64 := Nat.mod_lt _ (by unfold W64; omega)
  generalize key * FAC % W64 = x at *
  unfold W64 at *
  rcases h with rfl | rfl | rfl | rfl
  · show x / 2305843009213693952 < 8; omega
  · show x / 1152921504606846976 < 16; omega
  · show x / 576460752303423488 < 32; omega
  · show x / 288230376151711744 < 64; omega
theorem mod_add {h n j : Nat} (hh : h < n) (hj : j < n) : (h + j) % n = if h + j < n then h + j else h + j - n := by
  by_cases e : h + j < n
  · rw [if_pos e, Nat.mod_eq_of_lt e]
  · rw [if_neg e, Nat.mod_eq_sub_mod (by omega), Nat.mod_eq_of_lt (by omega)]
theorem mod_inj {h n i j : Nat} (hh : h < n) (hi : i < n) (hj : j < n) (e : (h + i) % n = (h + j) % n) : i = j := by
  rw [mod_add hh hi, mod_add hh hj] at e
  split at e <;> split at e <;> omega
/-- how many steps it is from h to i -/
def dst (h i n : Nat) : Nat := (i + n - h) % n
theorem dst_lt {h i n : Nat} (hh : h < n) : dst h i n < n := Nat.mod_lt _ (by omega)
theorem dst_at {h i n : Nat} (hh : h < n) (hi : i < n) : (h + dst h i n) % n = i := by
  unfold dst
  by_cases e : h ≤ i
  · rw [show i + n - h = (i - h) + n by omega, Nat.add_mod_right, Nat.mod_eq_of_lt (a := i - h) (by omega), show h + (i - h) = i by omega, Nat.mod_eq_of_lt hi]
  · rw [Nat.mod_eq_of_lt (a := i + n - h) (by omega), show h + (i + n - h) = i + n by omega, Nat.add_mod_right, Nat.mod_eq_of_lt hi]
theorem dst_eq {h n r : Nat} (hh : h < n) (hr : r < n) : dst h ((h + r) % n) n = r :=
  mod_inj hh (dst_lt hh) hr (dst_at hh (Nat.mod_lt _ (by omega)))

def isK (key : Nat) (s : Es) : Bool := s.s == 1 && s.k == key
def stopB (key : Nat) (s : Es) : Bool := s.s == 0 || isK key s
def openB (s : Es) : Bool := !(s.s == 1)
theorem isK_iff {key : Nat} {s : Es} : isK key s = true ↔ s.s = 1 ∧ s.k = key := by unfold isK; simp
theorem isK_no {key : Nat} {s : Es} : isK key s = false ↔ ¬ (s.s = 1 ∧ s.k = key) := by
  rw [← isK_iff]; simp
theorem stopB_no {key : Nat} {s : Es} (h : stopB key s = false) : s.s ≠ 0 ∧ isK key s = false := by
  unfold stopB at h
  rw [Bool.or_eq_false_iff] at h
  exact ⟨by simpa using h.1, h.2⟩
theorem stopB_yes {key : Nat} {s : Es} (h : stopB key s = true) : s.s = 0 ∨ isK key s = true := by
  unfold stopB at h
  rw [Bool.or_eq_true] at h
  rcases h with h | h
  · exact .inl (by simpa using h)
  · exact .inr h
/-- how many steps from h on it is to the first slot of which q says yes -/
def sr (l : List Es) (q : Es → Bool) (h : Nat) : Nat := fst1 l.length fun i => q (nthE l ((h + i) % l.length))
/-- the slot; the length: there is none -/
def sa (l : List Es) (q : Es → Bool) (h : Nat) : Nat := if sr l q h < l.length then (h + sr l q h) % l.length else l.length
theorem sa_lt {l : List Es} {q : Es → Bool} {h : Nat} (hs : sa l q h < l.length) : sr l q h < l.length ∧ sa l q h = (h + sr l q h) % l.length ∧ q (nthE l (sa l q h)) = true := by
  unfold sa at *
  by_cases e : sr l q h < l.length
  · rw [if_pos e] at *
    exact ⟨e, rfl, fst1_at (q := fun i => q (nthE l ((h + i) % l.length))) e⟩
  · rw [if_neg e] at hs; omega
theorem sa_le (l : List Es) (q : Es → Bool) (h : Nat) : sa l q h ≤ l.length := by
  unfold sa
  by_cases e : sr l q h < l.length
  · rw [if_pos e]; exact Nat.le_of_lt (Nat.mod_lt _ (by omega))
  · rw [if_neg e]; exact Nat.le_refl _
/-- where the code finds a key; the length: nowhere -/
def fd (l : List Es) (key : Nat) : Nat :=
  if sa l (stopB key) (hm key l.length) < l.length ∧ (nthE l (sa l (stopB key) (hm key l.length))).s ≠ 0 then sa l (stopB key) (hm key l.length) else l.length
/-- where the document finds it -/
def xfd (l : List Es) (key : Nat) : Nat := fst1 l.length fun i => isK key (nthE l i)
/-- where a key would be put -/
def pl (l : List Es) (key : Nat) : Nat := sa l openB (hm key l.length)
theorem fd_le (l : List Es) (key : Nat) : fd l key ≤ l.length := by
  unfold fd
  split
  · rename_i h; exact Nat.le_of_lt h.1
  · exact Nat.le_refl _
theorem xfd_le (l : List Es) (key : Nat) : xfd l key ≤ l.length := fst1_le _ _
theorem fd_is {l : List Es} {key : Nat} (h : fd l key < l.length) : isK key (nthE l (fd l key)) = true := by
  unfold fd at *
  split at h
  · rename_i hc
    rw [if_pos hc]
    rcases stopB_yes (sa_lt hc.1).2.2 with h3 | h3
    · exact absurd h3 hc.2
    · exact h3
  · omega
theorem xfd_is {l : List Es} {key : Nat} (h : xfd l key < l.length) : isK key (nthE l (xfd l key)) = true := fst1_at (q := fun i => isK key (nthE l i)) h
theorem fd_miss {l : List Es} {key : Nat} (h : ∀ i, i < l.length → isK key (nthE l i) = false) : fd l key = l.length := by
  by_cases hf : fd l key < l.length
  · have := fd_is hf
    rw [h _ hf] at this; cases this
  · have := fd_le l key; omega
theorem xfd_miss {l : List Es} {key : Nat} (h : ∀ i, i < l.length → isK key (nthE l i) = false) : xfd l key = l.length := fst1_none h

/-- a slot is what the code asks of it -/
def okS (l : List Es) (i : Nat) : Prop := ((nthE l i).s = 1 ∧ (nthE l i).k ≠ 0 ∧ fd l (nthE l i).k = i) ∨ (((nthE l i).s = 0 ∨ (nthE l i).s = 2) ∧ (nthE l i).k = 0 ∧ (nthE l i).v = 0)
/-- no slot on the way to it is free -/
def pth (l : List Es) (i : Nat) : Prop := ∀ j, j < dst (hm (nthE l i).k l.length) i l.length → (nthE l ((hm (nthE l i).k l.length + j) % l.length)).s ≠ 0
/-- a slot is what the document asks of it -/
def xokS (l : List Es) (i : Nat) : Prop := ((nthE l i).s < 3 ∧ ((nthE l i).s ≠ 1 → (nthE l i).k = 0 ∧ (nthE l i).v = 0)) ∧ ((nthE l i).s = 1 → (nthE l i).k ≠ 0 ∧ xfd l (nthE l i).k = i ∧ pth l i)
theorem ok_xok {l : List Es} (hz : Sz l.length) (h : ∀ i, i < l.length → okS l i) (i : Nat) (hi : i < l.length) : xokS l i := by
  refine ⟨⟨?_, ?_⟩, ?_⟩
  · rcases h i hi with ⟨h1, _⟩ | ⟨h1, _⟩ <;> omega
  · intro hs
    rcases h i hi with ⟨h1, _⟩ | ⟨_, h1⟩
    · exact absurd h1 hs
    · exact h1
  · intro hs
    rcases h i hi with ⟨_, h2, h3⟩ | ⟨h1, _⟩
    · refine ⟨h2, ?_, ?_⟩
      · refine fst1_eq hi (isK_iff.2 ⟨hs, rfl⟩) fun j hj => ?_
        by_cases hk : isK (nthE l i).k (nthE l j) = true
        · obtain ⟨k1, k2⟩ := isK_iff.1 hk
          rcases h j (by omega) with ⟨_, _, g3⟩ | ⟨g1, _⟩
          · rw [k2, h3] at g3; omega
          · omega
        · simpa using hk
      · intro j hj
        have hf : fd l (nthE l i).k < l.length := by omega
        unfold fd at h3
        split at h3
        · rename_i hc
          obtain ⟨q1, q2, q3⟩ := sa_lt hc.1
          rw [h3] at q2
          have hd : dst (hm (nthE l i).k l.length) i l.length = sr l (stopB (nthE l i).k) (hm (nthE l i).k l.length) := by
            have h9 := dst_eq (hm_lt (nthE l i).k hz) q1
            rwa [← q2] at h9
          rw [hd] at hj
          exact (stopB_no (fst1_before (q := fun i' => stopB (nthE l i).k (nthE l ((hm (nthE l i).k l.length + i') % l.length))) hj)).1
        · omega
    · omega
theorem xok_hit {l : List Es} (hz : Sz l.length) (h : ∀ i, i < l.length → xokS l i) (i key : Nat) (hi : i < l.length) (hk : isK key (nthE l i) = true) : fd l key = i ∧ xfd l key = i := by
  obtain ⟨k1, rfl⟩ := isK_iff.1 hk
  obtain ⟨_, hx⟩ := h i hi
  obtain ⟨x1, x2, x3⟩ := hx k1
  refine ⟨?_, x2⟩
  have hl := hm_lt (nthE l i).k hz
  have hr : sr l (stopB (nthE l i).k) (hm (nthE l i).k l.length) = dst (hm (nthE l i).k l.length) i l.length := by
    refine fst1_eq (dst_lt hl) ?_ fun j hj => ?_
    · show stopB _ (nthE l ((hm (nthE l i).k l.length + dst (hm (nthE l i).k l.length) i l.length) % l.length)) = true
      rw [dst_at hl hi]
      unfold stopB
      rw [hk]; simp
    · show stopB _ (nthE l _) = false
      unfold stopB
      rw [Bool.or_eq_false_iff]
      refine ⟨by simpa using x3 j hj, ?_⟩
      by_cases hq : isK (nthE l i).k (nthE l ((hm (nthE l i).k l.length + j) % l.length)) = true
      · have hp : (hm (nthE l i).k l.length + j) % l.length < l.length := Nat.mod_lt _ (by omega)
        obtain ⟨q1, q2⟩ := isK_iff.1 hq
        have := ((h _ hp).2 q1).2.1
        rw [q2, x2] at this
        have hj2 : j < l.length := Nat.lt_trans hj (dst_lt hl)
        have e : dst (hm (nthE l i).k l.length) i l.length = j := by
          have h9 := dst_eq hl hj2
          rwa [← this] at h9
        omega
      · simpa using hq
  have hs : sa l (stopB (nthE l i).k) (hm (nthE l i).k l.length) = i := by
    unfold sa
    rw [if_pos (by rw [hr]; exact dst_lt hl), hr, dst_at hl hi]
  unfold fd
  rw [hs, if_pos ⟨hi, by omega⟩]
theorem xok_ok {l : List Es} (hz : Sz l.length) (h : ∀ i, i < l.length → xokS l i) (i : Nat) (hi : i < l.length) : okS l i := by
  obtain ⟨⟨x1, x2⟩, x3⟩ := h i hi
  by_cases hs : (nthE l i).s = 1
  · exact .inl ⟨hs, (x3 hs).1, (xok_hit hz h i _ hi (isK_iff.2 ⟨hs, rfl⟩)).1⟩
  · exact .inr ⟨by omega, x2 hs⟩

def frees (l : List Es) : Nat := l.countP fun s => s.s == 0
def useds (l : List Es) : Nat := l.countP fun s => s.s == 1
/-- a table that is right -/
def OkT (l : List Es) : Prop := l.length = 0 ∨ (Sz l.length ∧ (∀ i, i < l.length → okS l i) ∧ l.length ≤ 4 * frees l)
theorem OkT.x {l : List Es} (h : OkT l) (hn : l.length ≠ 0) : Sz l.length ∧ (∀ i, i < l.length → xokS l i) ∧ l.length ≤ 4 * frees l := by
  rcases h with h | ⟨h1, h2, h3⟩
  · exact absurd h hn
  · exact ⟨h1, ok_xok h1 h2, h3⟩
theorem OkT.of_x {l : List Es} (h1 : Sz l.length) (h2 : ∀ i, i < l.length → xokS l i) (h3 : l.length ≤ 4 * frees l) : OkT l := .inr ⟨h1, xok_ok h1 h2, h3⟩
theorem OkT.le {l : List Es} (h : OkT l) : l.length ≤ 64 := by
  rcases h with h | ⟨h, _⟩
  · omega
  · exact h.le
theorem OkT.hit {l : List Es} (h : OkT l) {i key : Nat} (hi : i < l.length) (hk : isK key (nthE l i) = true) : fd l key = i ∧ xfd l key = i := by
  obtain ⟨h1, h2, _⟩ := h.x (by omega)
  exact xok_hit h1 h2 i key hi hk
theorem OkT.same {l : List Es} (h : OkT l) (key : Nat) : fd l key = xfd l key := by
  by_cases hx : xfd l key < l.length
  · exact (h.hit hx (xfd_is hx)).1
  · have e : xfd l key = l.length := by have := xfd_le l key; omega
    rw [e]
    exact fd_miss fun i hi => by
      by_cases hk : isK key (nthE l i) = true
      · have := (h.hit hi hk).2; omega
      · simpa using hk
theorem OkT.zero {l : List Es} (h : OkT l) : fd l 0 = l.length := by
  refine fd_miss fun i hi => ?_
  obtain ⟨h1, h2, _⟩ := h.x (by omega)
  obtain ⟨_, hx⟩ := h2 i hi
  rw [isK_no]
  rintro ⟨e1, e2⟩
  exact (hx e1).1 e2
theorem frees_le (l : List Es) : frees l ≤ l.length := List.countP_le_length
theorem useds_le (l : List Es) : useds l ≤ l.length := List.countP_le_length
theorem frees_take (l : List Es) (k : Nat) (h : k < l.length) : frees (l.take (k + 1)) = frees (l.take k) + if (nthE l k).s = 0 then 1 else 0 := by
  unfold frees
  rw [take_nthE l k h, List.countP_append]
  by_cases e : (nthE l k).s = 0 <;> simp [List.countP_cons, e]
theorem useds_take (l : List Es) (k : Nat) (h : k < l.length) : useds (l.take (k + 1)) = useds (l.take k) + if (nthE l k).s = 1 then 1 else 0 := by
  unfold useds
  rw [take_nthE l k h, List.countP_append]
  by_cases e : (nthE l k).s = 1 <;> simp [List.countP_cons, e]
theorem countP_set1 (p : Es → Bool) (l : List Es) (a : Nat) (u : Es) (ha : a < l.length) : (l.set a u).countP p + (if p (nthE l a) then 1 else 0) = l.countP p + if p u then 1 else 0 := by
  induction l generalizing a with
  | nil => simp at ha
  | cons x l ih =>
    cases a with
    | zero =>
      have e : nthE (x :: l) 0 = x := rfl
      rw [List.set_cons_zero, List.countP_cons, List.countP_cons, e]
      omega
    | succ a =>
      have e : nthE (x :: l) (a + 1) = nthE l a := rfl
      have := ih a (by simpa using ha)
      rw [List.set_cons_succ, List.countP_cons, List.countP_cons, e]
      omega
theorem frees_set (l : List Es) (a : Nat) (u : Es) (ha : a < l.length) : frees (l.set a u) + (if (nthE l a).s = 0 then 1 else 0) = frees l + if u.s = 0 then 1 else 0 := by
  have := countP_set1 (fun s => s.s == 0) l a u ha
  simpa [frees] using this
theorem useds_set (l : List Es) (a : Nat) (u : Es) (ha : a < l.length) : useds (l.set a u) + (if (nthE l a).s = 1 then 1 else 0) = useds l + if u.s = 1 then 1 else 0 := by
  have := countP_set1 (fun s => s.s == 1) l a u ha
  simpa [useds] using this
theorem frees_pos {l : List Es} (h : 0 < frees l) : ∃ i, i < l.length ∧ (nthE l i).s = 0 := by
  unfold frees at h
  rw [List.countP_pos_iff] at h
  obtain ⟨x, hx, hs⟩ := h
  obtain ⟨i, hi, e⟩ := List.getElem_of_mem hx
  exact ⟨i, hi, by rw [nthE_get l i hi, e]; simpa using hs⟩
theorem useds_lt {l : List Es} (h : useds l < l.length) : ∃ i, i < l.length ∧ openB (nthE l i) = true := by
  refine Classical.byContradiction fun hn => ?_
  have : useds l = l.length := by
    unfold useds
    rw [List.countP_eq_length]
    intro x hx
    obtain ⟨i, hi, e⟩ := List.getElem_of_mem hx
    refine Classical.byContradiction fun hs => hn ⟨i, hi, ?_⟩
    rw [nthE_get l i hi, e]
    unfold openB
    simpa using hs
  omega
end Go.Proofs.YtdeopodfpeeenaaDoor
