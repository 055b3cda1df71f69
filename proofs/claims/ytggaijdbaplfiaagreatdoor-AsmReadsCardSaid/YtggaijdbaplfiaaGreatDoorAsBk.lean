/- AsBk, in one text: As27, As28, As29. -/
import Derived.Test.YtggaijdbaplfiaaGreatDoorAs16
import Derived.Test.YtggaijdbaplfiaaGreatDoorAs25
import Derived.Test.YtggaijdbaplfiaaGreatDoorAs24
import Derived.BigQuiet
import Derived.Deep.QuietTactic
/- Plain facts: an instruction's line is read as it. -/
namespace Go.Proofs.YtggaijdbaplfiaaGreatDoor
open Go
set_option linter.unusedVariables false
set_option linter.unusedSimpArgs false
theorem pm_snoc (M : Nat) (c : UInt8) (hc : 48 ≤ c.toNat ∧ c.toNat ≤ 57) : ∀ (a : List UInt8) (acc u : Nat), Lib.parseUintM M acc a = .ok u → u < 1844674407370955162 → u * 10 + (c.toNat - 48) ≤ M → Lib.parseUintM M acc (a ++ [c]) = .ok (u * 10 + (c.toNat - 48))
  | [], acc, u, h, h1, h2 => by
    simp only [Lib.parseUintM] at h
    injection h with h
    subst h
    simp only [List.nil_append, Lib.parseUintM]
    rw [if_pos hc, if_neg (by omega), if_neg (by omega)]
  | x :: a, acc, u, h, h1, h2 => by
    simp only [List.cons_append, Lib.parseUintM] at h ⊢
    split at h
    · rename_i hx
      rw [if_pos hx]
      split at h
      · cases h
      · rename_i h3
        rw [if_neg h3]
        split at h
        · cases h
        · rename_i h4
          rw [if_neg h4]
          exact pm_snoc M c hc a _ u h h1 h2
    · cases h
theorem dig_toNat (d : Nat) (h : d < 10) : (UInt8.ofNat (48 + d)).toNat = 48 + d := by
  simp
  omega
theorem pm_dig : ∀ (f u : Nat), 1 ≤ f → u < 10 ^ f → u < 18446744073709551616 → Lib.parseUintM 18446744073709551615 0 (digF f u) = .ok u
  | 0, u, h, _, _ => by omega
  | f + 1, u, _, h, hu => by
    rw [digF]
    by_cases h10 : u < 10
    · rw [if_pos h10]
      have hd := dig_toNat u h10
      simp only [Lib.parseUintM]
      rw [if_pos (by rw [hd]; omega), if_neg (by omega), if_neg (by rw [hd]; omega), hd]
      congr 1
      omega
    · rw [if_neg h10]
      rw [Nat.pow_succ] at h
      have hf : 1 ≤ f := by
        rcases Nat.eq_zero_or_pos f with rfl | h1
        · simp at h; omega
        · exact h1
      have hd := dig_toNat (u % 10) (by omega)
      have := pm_snoc 18446744073709551615 (UInt8.ofNat (48 + u % 10)) (by rw [hd]; omega) _ 0 (u / 10) (pm_dig f (u / 10) hf (by omega) (by omega)) (by omega) (by rw [hd]; omega)
      rw [this, hd]
      congr 1
      omega
theorem digF_ne : ∀ (f u : Nat), 1 ≤ f → digF f u ≠ []
  | 0, u, h => by omega
  | f + 1, u, _ => by
    rw [digF]
    split <;> simp
theorem digs_ne (u : Nat) : digs u ≠ [] := digF_ne 20 u (by omega)
theorem numE_digs (u : Nat) (h : u < 18446744073709551616) : numE (digs u) = some u := by
  have h1 : Lib.parseUintB 64 (digs u) = .ok u := by
    unfold Lib.parseUintB
    rw [if_neg (digs_ne u)]
    exact pm_dig 20 u (by omega) (Nat.lt_trans h (by decide)) h
  unfold numE
  rw [h1]
  simp
theorem digs_in (u : Nat) (c : UInt8) (h : c ∈ digs u) : 48 ≤ c.toNat ∧ c.toNat ≤ 57 := digF_range 20 u c h
theorem digs_no (u : Nat) (c : UInt8) (h : c.toNat < 48 ∨ 57 < c.toNat) : c ∉ digs u := fun hm => by
  have := digs_in u c hm
  omega
theorem join_two (w v : List UInt8) (r : List (List UInt8)) : Lib.join (w :: v :: r) [32] = w ++ 32 :: Lib.join (v :: r) [32] := by
  rw [Lib.join_cons, Lib.join_cons]
  simp [Lib.joinTail]
theorem split_join : ∀ (ws : List (List UInt8)), ws ≠ [] → (∀ w ∈ ws, (32 : UInt8) ∉ w) → Lib.split (Lib.join ws [32]) [32] = ws
  | [], h, _ => absurd rfl h
  | [w], _, h => by
    rw [Lib.join_one]
    exact split_miss w 32 (h w (by simp))
  | w :: v :: r, _, h => by
    rw [join_two, split_hit _ _ _ (h w (by simp)), split_join (v :: r) (by simp) (fun u hu => h u (by simp [hu]))]
theorem lab_no {s : List UInt8} (h : isLab s = true) (c : UInt8) (hc : labC c = false) : c ∉ s := fun hm => by
  unfold isLab at h
  simp only [Bool.and_eq_true, List.all_eq_true] at h
  rw [h.2 c hm] at hc
  cases hc
theorem lab_ne {s : List UInt8} (h : isLab s = true) : s ≠ [] := by
  rintro rfl
  revert h
  decide
theorem word_no (x : In) (lb : List UInt8) (c : UInt8) (hc : labC c = false) (hlb : isLab lb = true ∨ c ∉ lb) (o : Nat) : c ∉ wordO x lb o := by
  have hd : c ∉ digs (getO o x).toNat := fun hm => by
    have h1 := digs_in _ c hm
    unfold labC at hc
    simp only [Bool.or_eq_false_iff, Bool.and_eq_false_iff, decide_eq_false_iff_not] at hc
    omega
  have h114 : c ≠ 114 := by
    rintro rfl
    revert hc
    decide
  unfold wordO
  split
  · rcases hlb with h | h
    · exact lab_no h c hc
    · exact h
  · split
    · rw [List.mem_cons, not_or]
      exact ⟨h114, hd⟩
    · exact hd
theorem fms_pl : ∀ f ∈ fms, (32 : UInt8) ∉ f.nm ∧ (10 : UInt8) ∉ f.nm ∧ (58 : UInt8) ∉ f.nm ∧ f.nm ≠ [] := by decide +kernel
theorem fms_nmd : ∀ f ∈ fms, fnamed f.nm = some f := by
  intro f hf
  simp only [fms, List.mem_cons, List.not_mem_nil, or_false] at hf
  rcases hf with rfl | rfl | rfl | rfl | rfl | rfl | rfl | rfl | rfl | rfl | rfl | rfl | rfl | rfl | rfl | rfl | rfl | rfl | rfl | rfl <;> rfl
theorem fms_no (f : Fm) (h : f ∈ fms) : (32 : UInt8) ∉ f.nm ∧ (10 : UInt8) ∉ f.nm ∧ (58 : UInt8) ∉ f.nm ∧ f.nm ≠ [] ∧ fnamed f.nm = some f := by
  obtain ⟨h1, h2, h3, h4⟩ := fms_pl f h
  exact ⟨h1, h2, h3, h4, fms_nmd f h⟩
theorem tell_word (x : In) (lb : List UInt8) (c : Int) (o : Nat) (h1 : 1 ≤ o) (h9 : o ≤ 9) (hin : inO c x o) (hlt : getO o x < 18446744073709551616) (hlb : o = 9 → isLab lb = true) (z : In) (gl : List UInt8) :
    tellO o (wordO x lb o) (z, gl) = some (if o = 9 then (z, lb) else (putO o (getO o x) z, gl)) := by
  by_cases e : o = 9
  · subst e
    have hw : wordO x lb 9 = lb := rfl
    rw [hw]
    unfold tellO
    rw [if_pos rfl, if_pos rfl, if_pos (hlb rfl)]
  · have hn := numE_digs (getO o x).toNat (by obtain ⟨h0, _⟩ := hin; omega)
    have hm : mostO o c = mostO o 0 := by
      unfold mostO
      split <;> first | rfl | (exact absurd rfl e)
    have hle : (((getO o x).toNat : Nat) : Int) ≤ mostO o 0 := by
      rw [← hm, Int.toNat_of_nonneg hin.1]
      exact hin.2
    have hle2 : getO o x ≤ mostO o 0 := by rw [← hm]; exact hin.2
    rw [if_neg e]
    unfold tellO wordO
    rw [if_neg e, if_neg e]
    cases hr : isR o with
    | true =>
      have hp : Lib.hasPrefix (114 :: digs (getO o x).toNat) [114] = true := by simp [Lib.hasPrefix]
      have ht : Lib.trimPrefix (114 :: digs (getO o x).toNat) [114] = digs (getO o x).toNat := by simp [Lib.trimPrefix, Lib.hasPrefix]
      simp only [if_true, hp, ht, hn, if_pos hle, Int.toNat_of_nonneg hin.1, if_pos hle2, Bool.not_true, Bool.and_false, Bool.false_eq_true, if_false]
    | false =>
      simp only [Bool.false_and, Bool.false_eq_true, if_false, hn, if_pos hle, Int.toNat_of_nonneg hin.1, if_pos hle2]
def mkM (x : In) (os : List Nat) (z : In) : In := os.foldl (fun m o => if o = 9 then m else putO o (getO o x) m) z
theorem tellL_words (x : In) (lb : List UInt8) (c : Int) : ∀ (os : List Nat) (z : In) (gl : List UInt8), (∀ o ∈ os, (1 ≤ o ∧ o ≤ 9) ∧ inO c x o ∧ getO o x < 18446744073709551616 ∧ (o = 9 → isLab lb = true)) → tellL os (os.map (wordO x lb)) (z, gl) = some (mkM x os z, if os.contains 9 then lb else gl)
  | [], z, gl, _ => by simp [tellL, mkM]
  | o :: os, z, gl, h => by
    obtain ⟨⟨h1, h9⟩, hin, hlt, hlb⟩ := h o (by simp)
    rw [List.map_cons, tellL, tell_word x lb c o h1 h9 hin hlt hlb]
    simp only
    by_cases e : o = 9
    · subst e
      rw [if_pos rfl, tellL_words x lb c os z lb (fun o ho => h o (by simp [ho]))]
      have : mkM x (9 :: os) z = mkM x os z := rfl
      rw [this]
      simp
    · rw [if_neg e, tellL_words x lb c os _ gl (fun o ho => h o (by simp [ho]))]
      have h2 : mkM x (o :: os) z = mkM x os (putO o (getO o x) z) := by
        unfold mkM
        rw [List.foldl_cons, if_neg e]
      have h3 : (o :: os).contains 9 = os.contains 9 := by
        rw [List.contains_cons]
        simp [Ne.symm e]
      rw [h2, h3]
theorem put9_comm : ∀ (o : Nat), o ≠ 9 → ∀ (t v : Int) (z : In), putO 9 t (putO o v z) = putO o v (putO 9 t z)
  | 0, _, _, _, _ => rfl
  | 1, _, _, _, _ => rfl
  | 2, _, _, _, _ => rfl
  | 3, _, _, _, _ => rfl
  | 4, _, _, _, _ => rfl
  | 5, _, _, _, _ => rfl
  | 6, _, _, _, _ => rfl
  | 7, _, _, _, _ => rfl
  | 8, _, _, _, _ => rfl
  | 9, h, _, _, _ => absurd rfl h
  | n + 10, _, _, _, _ => rfl
theorem put9_put9 (t v : Int) (z : In) : putO 9 t (putO 9 v z) = putO 9 t z := rfl
theorem put9_self (z : In) : putO 9 z.to z = z := rfl
theorem mkN_put9 (x : In) (t : Int) : ∀ (os : List Nat) (z : In), putO 9 t (mkN x os z) = putO 9 t (mkN x os (putO 9 t z))
  | [], z => rfl
  | o :: os, z => by
    have h1 : mkN x (o :: os) z = mkN x os (putO o (getO o x) z) := rfl
    have h2 : mkN x (o :: os) (putO 9 t z) = mkN x os (putO o (getO o x) (putO 9 t z)) := rfl
    rw [h1, h2, mkN_put9 x t os (putO o (getO o x) z), mkN_put9 x t os (putO o (getO o x) (putO 9 t z))]
    by_cases e : o = 9
    · subst e
      rfl
    · rw [put9_comm o e, put9_comm o e, put9_put9]
theorem mkM_eq (x : In) : ∀ (os : List Nat) (z : In), mkM x os z = putO 9 z.to (mkN x os z)
  | [], z => rfl
  | o :: os, z => by
    have h1 : mkN x (o :: os) z = mkN x os (putO o (getO o x) z) := rfl
    rw [h1]
    by_cases e : o = 9
    · subst e
      have h2 : mkM x (9 :: os) z = mkM x os z := rfl
      rw [h2, mkM_eq x os z, mkN_put9 x z.to os z, mkN_put9 x z.to os (putO 9 (getO 9 x) z)]
      rfl
    · have h2 : mkM x (o :: os) z = mkM x os (putO o (getO o x) z) := by
        unfold mkM
        rw [List.foldl_cons, if_neg e]
      have h3 : (putO o (getO o x) z).to = z.to := by
        unfold putO
        split <;> first | rfl | (exact absurd rfl e)
      rw [h2, mkM_eq x os _, h3]
/-- a line of a right instruction, with a label, is read as it, without where it goes -/
theorem parseS_line {x : In} {c : Int} (hx : OkI c x) (hc0 : 0 ≤ c) (hc1 : c ≤ 256) (lb : List UInt8) (hlb : jumpsI x = true → isLab lb = true) : parseS (lineI x lb) = some (putO 9 0 x, if jumpsI x then lb else []) := by
  obtain ⟨f, hf, hall, hmk, hsh⟩ := hx
  have hfm := List.mem_of_find?_eq_some hf
  obtain ⟨n32, _, _, _, hnm⟩ := fms_no f hfm
  have hwf := fms_wf f hfm
  have hj : jumpsI x = f.os.contains 9 := by unfold jumpsI; rw [hf]
  have hw9 : ∀ o ∈ f.os, (1 ≤ o ∧ o ≤ 9) ∧ inO c x o ∧ getO o x < 18446744073709551616 ∧ (o = 9 → isLab lb = true) := fun o ho => by
    refine ⟨hwf.2 o ho, hall o ho, Int.lt_of_le_of_lt (hall o ho).2 (most_lt o c hc1), fun e => hlb ?_⟩
    rw [hj, List.contains_iff_mem]
    rw [← e]
    exact ho
  have hwords : ∀ w ∈ lineW f x lb, (32 : UInt8) ∉ w := by
    intro w hw
    unfold lineW at hw
    rw [List.mem_cons, List.mem_map] at hw
    rcases hw with rfl | ⟨o, ho, rfl⟩
    · exact n32
    · by_cases e : o = 9
      · subst e
        have hwo : wordO x lb 9 = lb := rfl
        rw [hwo]
        exact lab_no ((hw9 9 ho).2.2.2 rfl) 32 (by decide)
      · have hd := digs_no (getO o x).toNat 32 (.inl (by decide))
        unfold wordO
        rw [if_neg e]
        split
        · rw [List.mem_cons, not_or]
          exact ⟨by decide, hd⟩
        · exact hd
  have hline : lineI x lb = Lib.join (lineW f x lb) [32] := by unfold lineI; rw [hf]; rfl
  have hsp : Lib.split (lineI x lb) [32] = lineW f x lb := by
    rw [hline]
    exact split_join _ (by simp [lineW]) hwords
  have htl := tellL_words x lb c f.os (bare f) [] hw9
  have hmm : mkM x f.os (bare f) = putO 9 0 x := by
    rw [mkM_eq]
    have h1 : mkN x f.os (bare f) = x := hmk
    rw [h1]
    rfl
  unfold parseS
  rw [hsp]
  unfold parseW
  have hh : (lineW f x lb).headD [] = f.nm := rfl
  have hd : (lineW f x lb).drop 1 = f.os.map (wordO x lb) := rfl
  have hl : (lineW f x lb).length = f.os.length + 1 := by simp [lineW]
  rw [hh, hnm]
  simp only
  rw [if_pos hl, hd, htl, hmm, hj]
  simp only
  rw [if_pos (show Sh (putO 9 0 x).n (putO 9 0 x).m from hsh)]
end Go.Proofs.YtggaijdbaplfiaaGreatDoor

/- Plain facts: a program's text is read as it. -/
namespace Go.Proofs.YtggaijdbaplfiaaGreatDoor
open Go
set_option linter.unusedVariables false
set_option linter.unusedSimpArgs false
theorem digs_inj {a b : Nat} (ha : a < 18446744073709551616) (hb : b < 18446744073709551616) (h : digs a = digs b) : a = b := by
  have h1 := numE_digs a ha
  rw [h, numE_digs b hb] at h1
  injection h1 with h1
  exact h1.symm
theorem join_no (c : UInt8) (hc : c ≠ 32) : ∀ (ws : List (List UInt8)), (∀ w ∈ ws, c ∉ w) → c ∉ Lib.join ws [32]
  | [], _ => by simp [Lib.join_nil]
  | [w], h => by
    rw [Lib.join_one]
    exact h w (by simp)
  | w :: v :: r, h => by
    rw [join_two, List.mem_append, List.mem_cons, not_or, not_or]
    exact ⟨h w (by simp), hc, join_no c hc (v :: r) (fun u hu => h u (by simp [hu]))⟩
theorem labG_no (g : List Int) (p : Int) (c : UInt8) (h76 : c ≠ 76) (h : c.toNat < 48 ∨ 57 < c.toNat) : c ∉ labG g p := by
  unfold labG
  split
  · rw [List.mem_cons, not_or]
    exact ⟨h76, digs_no _ c h⟩
  · simp
theorem line_no {x : In} {k : Int} (hx : OkI k x) (lb : List UInt8) (c : UInt8) (hc : c = 10 ∨ c = 58) (hlb : c ∉ lb) : c ∉ lineI x lb := by
  obtain ⟨f, hf, _⟩ := hx
  obtain ⟨_, n10, n58, _, _⟩ := fms_no f (List.mem_of_find?_eq_some hf)
  have hline : lineI x lb = Lib.join (lineW f x lb) [32] := by unfold lineI; rw [hf]; rfl
  rw [hline]
  refine join_no c (by rcases hc with rfl | rfl <;> decide) _ (fun w hw => ?_)
  unfold lineW at hw
  rw [List.mem_cons, List.mem_map] at hw
  rcases hw with rfl | ⟨o, ho, rfl⟩
  · rcases hc with rfl | rfl
    · exact n10
    · exact n58
  · exact word_no x lb c (by rcases hc with rfl | rfl <;> decide) (.inr hlb) o
theorem line_ne {x : In} {k : Int} (hx : OkI k x) (lb : List UInt8) : lineI x lb ≠ [] := by
  obtain ⟨f, hf, _⟩ := hx
  obtain ⟨_, _, _, hn, _⟩ := fms_no f (List.mem_of_find?_eq_some hf)
  have hline : lineI x lb = Lib.join (lineW f x lb) [32] := by unfold lineI; rw [hf]; rfl
  rw [hline]
  unfold lineW
  rw [Lib.join_cons]
  intro e
  rw [List.append_eq_nil_iff] at e
  exact hn e.1
theorem suffix_no (s : List UInt8) (h : (58 : UInt8) ∉ s) : Lib.hasSuffix s [58] = false := by
  unfold Lib.hasSuffix
  cases hq : List.isSuffixOf [58] s with
  | false => rfl
  | true =>
    rw [List.isSuffixOf_iff_suffix] at hq
    obtain ⟨t, rfl⟩ := hq
    exact absurd (by simp) h
theorem suffix_yes (a : List UInt8) : Lib.hasSuffix (a ++ [58]) [58] = true ∧ Lib.trimSuffix (a ++ [58]) [58] = a := by
  have h : Lib.hasSuffix (a ++ [58]) [58] = true := by
    unfold Lib.hasSuffix
    rw [List.isSuffixOf_iff_suffix]
    exact ⟨a, rfl⟩
  refine ⟨h, ?_⟩
  unfold Lib.trimSuffix
  rw [if_pos h]
  simp
/-- the label of a place -/
def labP (g : List Int) (p : Int) : List UInt8 := 76 :: digs (g.countP (· < p))
theorem labG_in {g : List Int} {p : Int} (h : p ∈ g) : labG g p = labP g p := by
  unfold labG labP
  rw [if_pos (List.contains_iff_mem.2 h)]
theorem labP_lab (g : List Int) (p : Int) : isLab (labP g p) = true := by
  have hl := digF_len 20 (g.countP (· < p))
  unfold isLab labP
  simp only [Bool.and_eq_true, decide_eq_true_eq, List.all_eq_true, List.length_cons]
  refine ⟨⟨by omega, by unfold digs; omega⟩, fun c hc => ?_⟩
  rw [List.mem_cons] at hc
  rcases hc with rfl | hc
  · decide
  · have := digs_in _ c hc
    unfold labC
    simp only [Bool.or_eq_true, Bool.and_eq_true, decide_eq_true_eq]
    omega
theorem labP_no (g : List Int) (p : Int) (c : UInt8) (h : c = 10 ∨ c = 58) : c ∉ labP g p := lab_no (labP_lab g p) c (by rcases h with rfl | rfl <;> decide)
theorem count_lt {g : List Int} {p q : Int} (hp : p ∈ g) (hpq : p < q) : g.countP (· < p) < g.countP (· < q) := by
  induction g with
  | nil => simp at hp
  | cons a g ih =>
    rw [List.countP_cons, List.countP_cons]
    have hmono : ∀ l : List Int, l.countP (· < p) ≤ l.countP (· < q) := fun l => List.countP_mono_left (fun x _ h => by simp at *; omega)
    rw [List.mem_cons] at hp
    rcases hp with rfl | hp
    · have := hmono g
      simp only [decide_eq_true_eq, Int.lt_irrefl, if_false, hpq, if_true]
      omega
    · have := ih hp
      by_cases h1 : a < p
      · have h2 : a < q := by omega
        simp only [decide_eq_true_eq, h1, h2, if_true]
        omega
      · by_cases h2 : a < q <;> simp only [decide_eq_true_eq, h1, h2, if_true, if_false] <;> omega
theorem labP_inj {g : List Int} (hg : g.length ≤ 100000) {p q : Int} (hp : p ∈ g) (hq : q ∈ g) (h : labP g p = labP g q) : p = q := by
  unfold labP at h
  injection h with _ h
  have h1 := List.countP_le_length (p := fun x => decide (x < p)) (l := g)
  have h2 := List.countP_le_length (p := fun x => decide (x < q)) (l := g)
  have := digs_inj (by omega) (by omega) h
  rcases Int.lt_trichotomy p q with hl | hl | hl
  · have := count_lt hp hl
    omega
  · exact hl
  · have := count_lt hq hl
    omega
def lblR (g : List Int) (i : Nat) : List (List UInt8) := if g.contains (i : Int) then [labP g i ++ [58]] else []
def rowsF (g : List Int) (l : List In) : Nat → Nat → List (List UInt8)
  | 0, i => lblR g i ++ [[]]
  | m + 1, i => lblR g i ++ lineI (nthI l i) (labG g (nthI l i).to) :: rowsF g l m (i + 1)
def txF (g : List Int) (l : List In) : Nat → Nat → List UInt8
  | 0, i => lblG g i
  | m + 1, i => lblG g i ++ (lineI (nthI l i) (labG g (nthI l i).to) ++ 10 :: txF g l m (i + 1))
theorem txF_print (g : List Int) (l : List In) : ∀ (m k : Nat), k + m = l.length → prG g l k ++ txF g l m k = printG g l
  | 0, k, h => by
    have : k = l.length := by omega
    subst this
    rfl
  | m + 1, k, h => by
    rw [← txF_print g l m (k + 1) (by omega), prG_succ, txF]
    simp
theorem split_lbl (g : List Int) (i : Nat) (r : List UInt8) : Lib.split (lblG g i ++ r) [10] = lblR g i ++ Lib.split r [10] := by
  unfold lblG lblR
  split
  · have e : (76 :: digs (g.countP (· < (i : Int))) ++ [58, 10]) ++ r = (labP g i ++ [58]) ++ 10 :: r := by simp [labP]
    rw [e, split_hit _ _ _ (by
      rw [List.mem_append, not_or]
      exact ⟨labP_no g i 10 (.inl rfl), by decide⟩)]
    rfl
  · rfl
theorem split_rows (g : List Int) (l : List In) (hok : OkP l) : ∀ (m i : Nat), i + m = l.length → Lib.split (txF g l m i) [10] = rowsF g l m i
  | 0, i, _ => by
    rw [txF, rowsF, ← List.append_nil (lblG g i), split_lbl, split_miss [] 10 (by simp)]
  | m + 1, i, h => by
    have hx := hok.2 _ (nthI_mem l i (by omega))
    rw [txF, rowsF, split_lbl, split_hit _ _ _ (line_no hx _ 10 (.inl rfl) (labG_no g _ 10 (by decide) (.inl (by decide)))), split_rows g l hok m (i + 1) (by omega)]
theorem jump_to {x : In} {c : Int} (hx : OkI c x) (hj : jumpsI x = false) : putO 9 0 x = x := by
  obtain ⟨f, hf, _, hm, _⟩ := hx
  have h9 : ¬ 9 ∈ f.os := by
    intro hm9
    unfold jumpsI at hj
    rw [hf] at hj
    simp only at hj
    rw [List.contains_iff_mem.2 hm9] at hj
    cases hj
  have hz : ∀ (os : List Nat) (z : In), 9 ∉ os → (mkN x os z).to = z.to := by
    intro os
    induction os with
    | nil => intro z _; rfl
    | cons a os ih =>
      intro z hn
      rw [List.mem_cons, not_or] at hn
      have h1 := ih (putO a (getO a x) z) hn.2
      have h2 : (putO a (getO a x) z).to = z.to := by
        unfold putO
        split <;> first | rfl | (exact absurd rfl hn.1)
      have h3 : mkN x (a :: os) z = mkN x os (putO a (getO a x) z) := rfl
      rw [h3, h1, h2]
  have h0 : (mkI f x).to = 0 := hz f.os (bare f) h9
  rw [hm] at h0
  rw [← put9_self x, h0]
  rfl
def LbI (g : List Int) (lb : Lbs) (i : Nat) : Prop := (∀ p : Nat, (p : Int) ∈ g → p < i → lb.lookup (labP g p) = some p) ∧ ∀ s, lb.lookup s ≠ none → ∃ p : Nat, (p : Int) ∈ g ∧ p < i ∧ s = labP g p
def gl0 (g : List Int) (x : In) : In × List UInt8 := (putO 9 0 x, if jumpsI x then labG g x.to else [])
theorem readL_rows (g : List Int) (l : List In) (hg : g.length ≤ 100000) (hgo : ∀ x ∈ l, jumpsI x = true → x.to ∈ g) (hok : OkP l) : ∀ (m i ln : Nat) (lb : Lbs) (cs : Cms), i + m = l.length → LbI g lb i → cs.map (fun c => (c.1, c.2.1)) = (l.take i).map (gl0 g) →
    ∃ lb' cs', readL (rowsF g l m i) ln lb cs = .inl (lb', cs') ∧ LbI g lb' (l.length + 1) ∧ cs'.map (fun c => (c.1, c.2.1)) = l.map (gl0 g) := by
  -- the label of a place
  have lbl : ∀ (i ln : Nat) (lb : Lbs) (cs : Cms) (r : List (List UInt8)), cs.length = i → LbI g lb i → ∃ ln' lb', readL (lblR g i ++ r) ln lb cs = readL r ln' lb' cs ∧ LbI g lb' (i + 1) := by
    intro i ln lb cs r hcs hlb
    unfold lblR
    cases hc : g.contains (i : Int) with
    | false =>
      refine ⟨ln, lb, by simp, fun p hp hi => ?_, fun s hs => ?_⟩
      · refine hlb.1 p hp ?_
        have hne : p ≠ i := by
          rintro rfl
          rw [List.contains_iff_mem.2 hp] at hc
          cases hc
        omega
      · obtain ⟨p, h1, h2, h3⟩ := hlb.2 s hs
        exact ⟨p, h1, by omega, h3⟩
    | true =>
      have hi := List.contains_iff_mem.1 hc
      obtain ⟨h1, h2⟩ := suffix_yes (labP g i)
      have hdef : isDef (labP g i ++ [58]) = true := by unfold isDef; rw [h1, h2, labP_lab]; rfl
      have hnone : lb.lookup (labP g i) = none := by
        cases hq : lb.lookup (labP g i) with
        | none => rfl
        | some v =>
          obtain ⟨p, hp, hpi, e⟩ := hlb.2 (labP g i) (by rw [hq]; simp)
          have := labP_inj hg hi hp e
          omega
      refine ⟨ln + 1, lb ++ [(labP g i, i)], ?_, ?_, ?_⟩
      · rw [if_pos rfl, List.singleton_append, readL, if_neg (by simp), if_pos hdef, h2, hnone, hcs]
        simp
      · intro p hp hpi
        rw [lookup_app]
        by_cases e : p = i
        · subst e
          rw [hnone]
          simp
        · rw [hlb.1 p hp (by omega)]
          rfl
      · intro s hs
        rw [lookup_app] at hs
        by_cases e : s = labP g i
        · exact ⟨i, hi, by omega, e⟩
        · simp only at hs
          rw [if_neg e, Option.or_none] at hs
          obtain ⟨p, q1, q2, q3⟩ := hlb.2 s hs
          exact ⟨p, q1, by omega, q3⟩
  intro m
  induction m with
  | zero =>
    intro i ln lb cs hi hlb hcs
    have hil : i = l.length := by omega
    have hcl : cs.length = i := by
      have := congrArg List.length hcs
      simp at this
      omega
    obtain ⟨ln', lb', h1, h2⟩ := lbl i ln lb cs [[]] hcl hlb
    refine ⟨lb', cs, ?_, by rw [← hil]; exact h2, ?_⟩
    · rw [rowsF, h1, readL, if_pos rfl, readL]
    · rw [hcs, hil, List.take_length]
  | succ m ih =>
    intro i ln lb cs hi hlb hcs
    have hcl : cs.length = i := by
      have := congrArg List.length hcs
      simp at this
      omega
    have hil : i < l.length := by omega
    have hx := hok.2 _ (nthI_mem l i hil)
    have h256 := hok.1
    obtain ⟨ln', lb', h1, h2⟩ := lbl i ln lb cs (lineI (nthI l i) (labG g (nthI l i).to) :: rowsF g l m (i + 1)) hcl hlb
    have hps := parseS_line hx (by omega) (by omega) (labG g (nthI l i).to) (fun hj => by
      rw [labG_in (hgo _ (nthI_mem l i hil) hj)]
      exact labP_lab g _)
    have hnd : isDef (lineI (nthI l i) (labG g (nthI l i).to)) = false := by
      unfold isDef
      rw [suffix_no _ (line_no hx _ 58 (.inr rfl) (labG_no g _ 58 (by decide) (.inr (by decide))))]
      rfl
    obtain ⟨lb2, cs2, q1, q2, q3⟩ := ih (i + 1) (ln' + 1) lb' (cs ++ [((gl0 g (nthI l i)).1, (gl0 g (nthI l i)).2, ln' + 1)]) (by omega) h2 (by
      rw [List.map_append, hcs, take_nthI l i hil, List.map_append]
      rfl)
    refine ⟨lb2, cs2, ?_, q2, q3⟩
    rw [rowsF, h1, readL, if_neg (line_ne hx _), if_neg (by rw [hnd]; simp), hps]
    simp only
    rw [if_neg (by omega)]
    exact q1
theorem progL_all (g : List Int) (lb : Lbs) (n : Nat) (hlb : LbI g lb (n + 1)) : ∀ (l' : List In) (cs : Cms) (acc : List In), cs.map (fun c => (c.1, c.2.1)) = l'.map (gl0 g) → (∀ x ∈ l', OkI n x ∧ (jumpsI x = true → x.to ∈ g)) → progL lb cs acc = (acc ++ l', 0, 0)
  | [], cs, acc, h, _ => by
    have : cs = [] := by simpa using h
    subst this
    simp [progL]
  | x :: l', [], acc, h, _ => by simp at h
  | x :: l', c :: cs, acc, h, hx => by
    rw [List.map_cons, List.map_cons] at h
    injection h with h1 h2
    obtain ⟨hok, hgo⟩ := hx x (by simp)
    obtain ⟨t0, t1⟩ := to_in hok (by omega)
    obtain ⟨ci, cg, cl⟩ := c
    unfold gl0 at h1
    injection h1 with e1 e2
    simp only at e1 e2
    subst e1 e2
    have hrest := fun acc => progL_all g lb n hlb l' cs acc h2 (fun y hy => hx y (by simp [hy]))
    cases hj : jumpsI x with
    | false =>
      rw [progL]
      simp only [Bool.false_eq_true, if_false, if_true]
      rw [hrest, jump_to hok hj]
      simp
    | true =>
      have hin := hgo hj
      have hlk := hlb.1 x.to.toNat (by rw [Int.toNat_of_nonneg t0]; exact hin) (by omega)
      rw [Int.toNat_of_nonneg t0] at hlk
      rw [progL]
      simp only [if_true]
      rw [labG_in hin, if_neg (lab_ne (labP_lab g _)), hlk]
      simp only
      rw [hrest]
      have hxx : putO 9 ((x.to.toNat : Nat) : Int) (putO 9 0 x) = x := by
        rw [Int.toNat_of_nonneg t0]
        rfl
      show (acc ++ [putO 9 ((x.to.toNat : Nat) : Int) (putO 9 0 x)] ++ l', 0, 0) = _
      rw [hxx]
      simp
theorem readP_print {l : List In} (hok : OkP l) (hp : (printP l).length ≤ 65536) : readP (printP l) = (l, 0, 0) := by
  have hgl := goalsL_len l
  have h256 := hok.1
  have hgo : ∀ x ∈ l, jumpsI x = true → x.to ∈ goalsL l := fun x hx hj => by
    rw [goalsL_mem]
    unfold tosL
    rw [List.mem_map]
    exact ⟨x, List.mem_filter.2 ⟨hx, hj⟩, rfl⟩
  have htx : txF (goalsL l) l l.length 0 = printP l := by
    have := txF_print (goalsL l) l l.length 0 (by omega)
    have h0 : prG (goalsL l) l 0 = [] := by simp [prG]
    rw [h0, List.nil_append] at this
    exact this
  have hsp := split_rows (goalsL l) l hok l.length 0 (by omega)
  rw [htx] at hsp
  obtain ⟨lb, cs, h1, h2, h3⟩ := readL_rows (goalsL l) l (by omega) hgo hok l.length 0 0 [] [] (by omega) ⟨fun p _ h => by omega, fun s h => by simp at h⟩ (by simp)
  unfold readP
  rw [if_neg (by omega), hsp, h1]
  simp only
  rw [progL_all (goalsL l) lb l.length h2 l cs [] h3 (fun x hx => ⟨hok.2 x hx, hgo x hx⟩)]
  rfl
end Go.Proofs.YtggaijdbaplfiaaGreatDoor

/- Contracts of the document's package: Same; the walk of AsmBack. -/
namespace Go.Proofs.YtggaijdbaplfiaaGreatDoor
open Go.RowKit
set_option linter.unusedVariables false
set_option linter.unusedSimpArgs false
theorem neqI (x y : In) (W : World) (r : Bool) (hr : x = y ↔ r = false) : (binOp .neq 37 (.agg #[.int .u8 x.kd, .int .u8 x.op, .int .i64 x.oa, .int .i64 x.ob, .int .i64 x.fd, .int .i64 x.n, .int .u64 x.m, .int .u64 x.w, .int .i64 x.a, .int .i64 x.b, .int .i64 x.to]) (.agg #[.int .u8 y.kd, .int .u8 y.op, .int .i64 y.oa, .int .i64 y.ob, .int .i64 y.fd, .int .i64 y.n, .int .u64 y.m, .int .u64 y.w, .int .i64 y.a, .int .i64 y.b, .int .i64 y.to])).run Tryz.prog W = .ok (.bool r) W := by
  rw [run_neq_struct]
  have h := eqInstr 9996 W x.kd x.op x.oa x.ob x.fd x.n x.m x.w x.a x.b x.to y.kd y.op y.oa y.ob y.fd y.n y.m y.w y.a y.b y.to
  have e : decide (x.kd = y.kd ∧ x.op = y.op ∧ x.oa = y.oa ∧ x.ob = y.ob ∧ x.fd = y.fd ∧ x.n = y.n ∧ (x.m : Int) = y.m ∧ (x.w : Int) = y.w ∧ x.a = y.a ∧ x.b = y.b ∧ x.to = y.to) = !r := by
    rw [In.ext_iff11] at hr
    have hm : ((x.m : Int) = y.m) ↔ x.m = y.m := by omega
    have hw : ((x.w : Int) = y.w) ↔ x.w = y.w := by omega
    simp only [hm, hw]
    cases r
    · simpa using hr
    · simpa using hr
  rw [e] at h
  rw [h]
  cases r <;> rfl
section
variable {w : World}
set_option maxRecDepth 100000 in
set_option maxHeartbeats 4000000 in
theorem xsame_any {A C : Option Addr} {l m : List In} (cap cc : Nat) (hr : PRow w w.heap.size A l) (hq : PRow w w.heap.size C m) (hl : l.length ≤ 17592186044416) (hm : m.length ≤ 17592186044416) (r : Bool) (hR : r = true ↔ l = m) :
    Calls Tryz.prog 11 #[.slice A l.length cap, .slice C m.length cc] w fun e w' => e = .returned (.bool r) ∧ Below w.heap.size w w' := by
  have HR := Lib.hid hR
  clear hR
  have hgd : Tryz.prog.eqGuardType Tryz.prog.depth 37 = false := by kernel_rfl
  by_cases hlm : l.length = m.length
  · have d1 : (l.length == m.length) = true := by simpa using hlm
    have HL := Lib.hid hlm
    generalize hn : m.length = n at *
    have HM := Lib.hid hn
    clear hn
    subst hlm
    go_enter Tryz.func11, Tryz.ntmps11
    go_wp2_with fail
    go_loopw [13] (fun ii wr => ∃ k : Nat, ii = .int .i64 (k : Nat) ∧ k ≤ l.length ∧ Hid (∀ j, j < k → nthI l j = nthI m j) ∧ Below w.heap.size w wr) (fun ii _ => l.length - (intOf ii).toNat)
    case atStart => exact ⟨0, rfl, Nat.zero_le _, Lib.hid (fun j hj => by omega), (by repeat (first | exact Below.refl _ _ | assumption | (refine below_drewN ?_ _) | (refine Below.drew ?_) | (refine Below.alloc ?_ (by first | omega | (simp; omega) | simp) _) | (refine Below.setCell ?_ (by first | omega | (simp; omega) | simp) _) | (refine below_trans ?_ (by assumption) (by first | omega | (simp; omega) | simp))))⟩
    case round =>
      obtain ⟨k, rfl, hk, HA, hb_wr⟩ := hrel
      by_cases hlt : k < l.length
      · obtain ⟨b, off, rfl, hbb, hc⟩ := (hr.later hb_wr).at_ (by omega)
        obtain ⟨b', off', rfl, hbb', hc'⟩ := (hq.later hb_wr).at_ (by have := HM.out; omega)
        have c5 := hc k hlt
        have d5 := hc' k (by have := HM.out; omega)
        clear hc hc'
        obtain ⟨x, hx⟩ : ∃ x, Hid (nthI l k = x) := ⟨_, Lib.hid rfl⟩
        obtain ⟨y, hy⟩ : ∃ y, Hid (nthI m k = y) := ⟨_, Lib.hid rfl⟩
        rw [hx.out] at c5
        rw [hy.out] at d5
        obtain ⟨c0, c1, c2, c3, c4, c5, c6, c7, c8, c9, c10⟩ := c5
        obtain ⟨q0, q1, q2, q3, q4, q5, q6, q7, q8, q9, q10⟩ := d5
        have hk0 : (0 : Int) ≤ (k : Int) := by omega
        have hk1 : (k : Int) < (l.length : Int) := by omega
        by_cases hxy : x = y
        · have hne := fun w => neqI x y w false ⟨fun _ => rfl, fun _ => hxy⟩
          have HN : Hid (∀ j, j < k + 1 → nthI l j = nthI m j) := Lib.hid fun j hj => by
            by_cases e : j = k
            · rw [e, hx.out, hy.out]; exact hxy
            · exact HA.out j (by omega)
          clear hxy
          go_wp2_with fail
          go_quiet (fail)
          go_wp2
          go_roundw
          case rel => exact ⟨k + 1, by go_num, by omega, HN, (by repeat (first | exact Below.refl _ _ | assumption | (refine below_drewN ?_ _) | (refine Below.drew ?_) | (refine Below.alloc ?_ (by first | omega | (simp; omega) | simp) _) | (refine Below.setCell ?_ (by first | omega | (simp; omega) | simp) _) | (refine below_trans ?_ (by assumption) (by first | omega | (simp; omega) | simp))))⟩
          case measure => simp [intOf]; omega
        · have hne := fun w => neqI x y w true ⟨fun h => absurd h hxy, fun h => by cases h⟩
          obtain rfl : r = false := by
            cases hr0 : r with
            | false => rfl
            | true =>
              have e := HR.out.1 hr0
              have e2 : nthI l k = nthI m k := by rw [e]
              rw [hx.out, hy.out] at e2
              exact absurd e2 hxy
          clear hxy
          go_wp2_with fail
          go_quiet (fail)
          go_wp2
          go_ret
          exact ⟨rfl, (by repeat (first | exact Below.refl _ _ | assumption | (refine below_drewN ?_ _) | (refine Below.drew ?_) | (refine Below.alloc ?_ (by first | omega | (simp; omega) | simp) _) | (refine Below.setCell ?_ (by first | omega | (simp; omega) | simp) _) | (refine below_trans ?_ (by assumption) (by first | omega | (simp; omega) | simp))))⟩
      · obtain rfl : k = l.length := by omega
        obtain rfl : r = true := HR.out.2 (eqI (by have := HM.out; omega) (HA.out))
        go_wp2
        go_ret
        exact ⟨rfl, (by repeat (first | exact Below.refl _ _ | assumption | (refine below_drewN ?_ _) | (refine Below.drew ?_) | (refine Below.alloc ?_ (by first | omega | (simp; omega) | simp) _) | (refine Below.setCell ?_ (by first | omega | (simp; omega) | simp) _) | (refine below_trans ?_ (by assumption) (by first | omega | (simp; omega) | simp))))⟩
  · have d1 : (l.length == m.length) = false := by simpa using hlm
    have d2 : ((l.length : Int) == (m.length : Int)) = false := by simp; omega
    obtain rfl : r = false := by
      cases hr0 : r with
      | false => rfl
      | true => exact absurd (by rw [HR.out.1 hr0]) hlm
    clear hlm
    generalize l.length = n1 at *
    generalize m.length = n2 at *
    go_enter Tryz.func11, Tryz.ntmps11
    go_wp2
    go_ret
    exact ⟨rfl, (by repeat (first | exact Below.refl _ _ | assumption | (refine below_drewN ?_ _) | (refine Below.drew ?_) | (refine Below.alloc ?_ (by first | omega | (simp; omega) | simp) _) | (refine Below.setCell ?_ (by first | omega | (simp; omega) | simp) _) | (refine below_trans ?_ (by assumption) (by first | omega | (simp; omega) | simp))))⟩
set_option maxRecDepth 100000 in
set_option maxHeartbeats 8000000 in
theorem asmBack_walk (A : Option Addr) (cap : Nat) (l : List In) (hL : Lw w) (hr : PRow w w.heap.size A l) (hl : l.length ≤ 17592186044416) (hx : InL l) :
    Calls Tryz.prog 5 #[.slice A l.length cap] w fun r w' => r = .returned (.bool true) ∧ Below w.heap.size w w' := by
  have HLV := Lib.hid fun (w : World) hL => lives_any (w := w) hL
  have HPR := Lib.hid fun (w : World) hr hL => print_any (w := w) (A := A) (l := l) cap hr hl hx hL
  unfold PrintR at HPR
  by_cases hok : OkP l
  · have HP1 : Hid (∀ W, PRow W W.heap.size A l → Lw W → Calls Tryz.prog 12 #[.slice A l.length cap] W fun e w' => e = .returned (.tuple #[.string (bs (printP l)), .int .i64 0]) ∧ Below W.heap.size W w') := Lib.hid fun W h1 h2 => (HPR.out W h1 h2).mono (by
      rintro e w' ⟨⟨_, h⟩ | ⟨h, _⟩, hb⟩
      · exact ⟨h, hb⟩
      · exact absurd hok h)
    have hsz := bs_size (printP l)
    by_cases hbig : 65536 < (printP l).length
    · have d1 : decide (65536 < ((bs (printP l)).size : Int)) = true := decide_eq_true (by omega)
      clear hok HPR hsz hbig hx
      generalize bs (printP l) = P at *
      go_enter Tryz.func5, Tryz.ntmps5
      go_wp2_with fail
      go_at_call 10
      refine (HLV.out _ (hL.later (by repeat (first | exact Below.refl _ _ | assumption | (refine below_drewN ?_ _) | (refine Below.drew ?_) | (refine Below.alloc ?_ (by first | omega | (simp; omega) | simp) _) | (refine Below.setCell ?_ (by first | omega | (simp; omega) | simp) _) | (refine below_trans ?_ (by assumption) (by first | omega | (simp; omega) | simp)))))).mono ?_
      rintro e w1 ⟨rfl, hb_w1⟩
      obtain ⟨hc_w1, hf_w1⟩ := bcell hb_w1; have hs_w1 := hb_w1.size; (try simp only [World.size_alloc, World.size_setCell, World.size_drew, World.heap_drewN] at hs_w1)
      go_wp2_with fail
      go_at_call 12
      refine (HP1.out _ (hr.later (by repeat (first | exact Below.refl _ _ | assumption | (refine below_drewN ?_ _) | (refine Below.drew ?_) | (refine Below.alloc ?_ (by first | omega | (simp; omega) | simp) _) | (refine Below.setCell ?_ (by first | omega | (simp; omega) | simp) _) | (refine below_trans ?_ (by assumption) (by first | omega | (simp; omega) | simp))))) (hL.later (by repeat (first | exact Below.refl _ _ | assumption | (refine below_drewN ?_ _) | (refine Below.drew ?_) | (refine Below.alloc ?_ (by first | omega | (simp; omega) | simp) _) | (refine Below.setCell ?_ (by first | omega | (simp; omega) | simp) _) | (refine below_trans ?_ (by assumption) (by first | omega | (simp; omega) | simp)))))).mono ?_
      rintro e w2 ⟨rfl, hb_w2⟩
      obtain ⟨hc_w2, hf_w2⟩ := bcell hb_w2; have hs_w2 := hb_w2.size; (try simp only [World.size_alloc, World.size_setCell, World.size_drew, World.heap_drewN] at hs_w2)
      go_wp2
      go_ret
      exact ⟨rfl, (by repeat (first | exact Below.refl _ _ | assumption | (refine below_drewN ?_ _) | (refine Below.drew ?_) | (refine Below.alloc ?_ (by first | omega | (simp; omega) | simp) _) | (refine Below.setCell ?_ (by first | omega | (simp; omega) | simp) _) | (refine below_trans ?_ (by assumption) (by first | omega | (simp; omega) | simp))))⟩
    · have d1 : decide (65536 < ((bs (printP l)).size : Int)) = false := decide_eq_false (by omega)
      have hrp := readP_print hok (by omega)
      have HPA : Hid (∀ W, Lw W → Calls Tryz.prog 8 #[.string (bs (printP l))] W fun e w' => ∃ B c, e = .returned (.tuple #[.slice B l.length c, .int .i64 0, .int .i64 0]) ∧ OwnsI w' W.heap.size (.slice B l.length c) l ∧ Below W.heap.size W w') := Lib.hid fun W hL => by
        have h := aparse_any (w := W) (bs (printP l)) hL
        rw [bs_data, hrp] at h
        exact h
      have HSM := Lib.hid fun (w : World) (C : Option Addr) (cc : Nat) hr hq => xsame_any (w := w) (A := A) (C := C) (l := l) (m := l) cap cc hr hq hl hl true (by simp)
      have HRO := Lib.hid fun (W : World) (A : Option Addr) (cap B : Nat) (h : OwnsI W B (.slice A l.length cap) l) => PRow.of_owns h
      clear hok HPR hsz hbig hx hrp
      generalize bs (printP l) = P at *
      go_enter Tryz.func5, Tryz.ntmps5
      go_wp2_with fail
      go_at_call 10
      refine (HLV.out _ (hL.later (by repeat (first | exact Below.refl _ _ | assumption | (refine below_drewN ?_ _) | (refine Below.drew ?_) | (refine Below.alloc ?_ (by first | omega | (simp; omega) | simp) _) | (refine Below.setCell ?_ (by first | omega | (simp; omega) | simp) _) | (refine below_trans ?_ (by assumption) (by first | omega | (simp; omega) | simp)))))).mono ?_
      rintro e w1 ⟨rfl, hb_w1⟩
      obtain ⟨hc_w1, hf_w1⟩ := bcell hb_w1; have hs_w1 := hb_w1.size; (try simp only [World.size_alloc, World.size_setCell, World.size_drew, World.heap_drewN] at hs_w1)
      go_wp2_with fail
      go_at_call 12
      refine (HP1.out _ (hr.later (by repeat (first | exact Below.refl _ _ | assumption | (refine below_drewN ?_ _) | (refine Below.drew ?_) | (refine Below.alloc ?_ (by first | omega | (simp; omega) | simp) _) | (refine Below.setCell ?_ (by first | omega | (simp; omega) | simp) _) | (refine below_trans ?_ (by assumption) (by first | omega | (simp; omega) | simp))))) (hL.later (by repeat (first | exact Below.refl _ _ | assumption | (refine below_drewN ?_ _) | (refine Below.drew ?_) | (refine Below.alloc ?_ (by first | omega | (simp; omega) | simp) _) | (refine Below.setCell ?_ (by first | omega | (simp; omega) | simp) _) | (refine below_trans ?_ (by assumption) (by first | omega | (simp; omega) | simp)))))).mono ?_
      rintro e w2 ⟨rfl, hb_w2⟩
      obtain ⟨hc_w2, hf_w2⟩ := bcell hb_w2; have hs_w2 := hb_w2.size; (try simp only [World.size_alloc, World.size_setCell, World.size_drew, World.heap_drewN] at hs_w2)
      go_wp2_with fail
      go_at_call 8
      refine (HPA.out _ (hL.later (by repeat (first | exact Below.refl _ _ | assumption | (refine below_drewN ?_ _) | (refine Below.drew ?_) | (refine Below.alloc ?_ (by first | omega | (simp; omega) | simp) _) | (refine Below.setCell ?_ (by first | omega | (simp; omega) | simp) _) | (refine below_trans ?_ (by assumption) (by first | omega | (simp; omega) | simp)))))).mono ?_
      rintro e w3 ⟨C, cc, rfl, oC, hb_w3⟩
      obtain ⟨hc_w3, hf_w3⟩ := bcell hb_w3; have hs_w3 := hb_w3.size; (try simp only [World.size_alloc, World.size_setCell, World.size_drew, World.heap_drewN] at hs_w3)
      have rC := Lib.hid (HRO.out _ _ _ _ oC)
      clear oC
      go_wp2_with fail
      go_at_call 11
      refine (HSM.out _ _ _ (hr.later (by repeat (first | exact Below.refl _ _ | assumption | (refine below_drewN ?_ _) | (refine Below.drew ?_) | (refine Below.alloc ?_ (by first | omega | (simp; omega) | simp) _) | (refine Below.setCell ?_ (by first | omega | (simp; omega) | simp) _) | (refine below_trans ?_ (by assumption) (by first | omega | (simp; omega) | simp))))) rC.out).mono ?_
      rintro e w4 ⟨rfl, hb_w4⟩
      obtain ⟨hc_w4, hf_w4⟩ := bcell hb_w4; have hs_w4 := hb_w4.size; (try simp only [World.size_alloc, World.size_setCell, World.size_drew, World.heap_drewN] at hs_w4)
      go_wp2
      go_ret
      exact ⟨rfl, (by repeat (first | exact Below.refl _ _ | assumption | (refine below_drewN ?_ _) | (refine Below.drew ?_) | (refine Below.alloc ?_ (by first | omega | (simp; omega) | simp) _) | (refine Below.setCell ?_ (by first | omega | (simp; omega) | simp) _) | (refine below_trans ?_ (by assumption) (by first | omega | (simp; omega) | simp))))⟩
  · have HP1 : Hid (∀ W, PRow W W.heap.size A l → Lw W → Calls Tryz.prog 12 #[.slice A l.length cap] W fun e w' => e = .returned (.tuple #[.string ⟨#[]⟩, .int .i64 2]) ∧ Below W.heap.size W w') := Lib.hid fun W h1 h2 => (HPR.out W h1 h2).mono (by
      rintro e w' ⟨⟨h, _⟩ | ⟨_, h⟩, hb⟩
      · exact absurd h hok
      · exact ⟨h, hb⟩)
    have HCK := Lib.hid fun (w : World) hr hL => check_any (w := w) (A := A) (l := l) cap hr hl hx hL 2 (.inr ⟨hok, rfl⟩)
    clear hok HPR hx
    go_enter Tryz.func5, Tryz.ntmps5
    go_wp2_with fail
    go_at_call 10
    refine (HLV.out _ (hL.later (by repeat (first | exact Below.refl _ _ | assumption | (refine below_drewN ?_ _) | (refine Below.drew ?_) | (refine Below.alloc ?_ (by first | omega | (simp; omega) | simp) _) | (refine Below.setCell ?_ (by first | omega | (simp; omega) | simp) _) | (refine below_trans ?_ (by assumption) (by first | omega | (simp; omega) | simp)))))).mono ?_
    rintro e w1 ⟨rfl, hb_w1⟩
    obtain ⟨hc_w1, hf_w1⟩ := bcell hb_w1; have hs_w1 := hb_w1.size; (try simp only [World.size_alloc, World.size_setCell, World.size_drew, World.heap_drewN] at hs_w1)
    go_wp2_with fail
    go_at_call 12
    refine (HP1.out _ (hr.later (by repeat (first | exact Below.refl _ _ | assumption | (refine below_drewN ?_ _) | (refine Below.drew ?_) | (refine Below.alloc ?_ (by first | omega | (simp; omega) | simp) _) | (refine Below.setCell ?_ (by first | omega | (simp; omega) | simp) _) | (refine below_trans ?_ (by assumption) (by first | omega | (simp; omega) | simp))))) (hL.later (by repeat (first | exact Below.refl _ _ | assumption | (refine below_drewN ?_ _) | (refine Below.drew ?_) | (refine Below.alloc ?_ (by first | omega | (simp; omega) | simp) _) | (refine Below.setCell ?_ (by first | omega | (simp; omega) | simp) _) | (refine below_trans ?_ (by assumption) (by first | omega | (simp; omega) | simp)))))).mono ?_
    rintro e w2 ⟨rfl, hb_w2⟩
    obtain ⟨hc_w2, hf_w2⟩ := bcell hb_w2; have hs_w2 := hb_w2.size; (try simp only [World.size_alloc, World.size_setCell, World.size_drew, World.heap_drewN] at hs_w2)
    go_wp2_with fail
    go_at_call 18
    refine (HCK.out _ (hr.later (by repeat (first | exact Below.refl _ _ | assumption | (refine below_drewN ?_ _) | (refine Below.drew ?_) | (refine Below.alloc ?_ (by first | omega | (simp; omega) | simp) _) | (refine Below.setCell ?_ (by first | omega | (simp; omega) | simp) _) | (refine below_trans ?_ (by assumption) (by first | omega | (simp; omega) | simp))))) (hL.later (by repeat (first | exact Below.refl _ _ | assumption | (refine below_drewN ?_ _) | (refine Below.drew ?_) | (refine Below.alloc ?_ (by first | omega | (simp; omega) | simp) _) | (refine Below.setCell ?_ (by first | omega | (simp; omega) | simp) _) | (refine below_trans ?_ (by assumption) (by first | omega | (simp; omega) | simp)))))).mono ?_
    rintro e w3 ⟨rfl, hb_w3⟩
    obtain ⟨hc_w3, hf_w3⟩ := bcell hb_w3; have hs_w3 := hb_w3.size; (try simp only [World.size_alloc, World.size_setCell, World.size_drew, World.heap_drewN] at hs_w3)
    go_wp2
    go_ret
    exact ⟨rfl, (by repeat (first | exact Below.refl _ _ | assumption | (refine below_drewN ?_ _) | (refine Below.drew ?_) | (refine Below.alloc ?_ (by first | omega | (simp; omega) | simp) _) | (refine Below.setCell ?_ (by first | omega | (simp; omega) | simp) _) | (refine below_trans ?_ (by assumption) (by first | omega | (simp; omega) | simp))))⟩
end
end Go.Proofs.YtggaijdbaplfiaaGreatDoor
