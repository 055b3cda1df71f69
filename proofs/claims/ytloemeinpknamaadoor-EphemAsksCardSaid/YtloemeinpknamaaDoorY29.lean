/- The sorted list of a table's slots is one; a law of an append of however many words, none too; what the document's All keeps from round to round. -/
import Derived.Test.YtloemeinpknamaaDoorY24
namespace Go.Proofs.YtloemeinpknamaaDoor
open Go.RowKit
set_option linter.unusedVariables false
set_option linter.unusedSimpArgs false

/-- rising keys -/
def RiseK (vs : List Es) : Prop := vs.Pairwise fun a b => a.k < b.k
theorem rise_of {l vs : List Es} (hok : OkT l) (hs : Srt l vs) : RiseK vs := by
  unfold RiseK
  rw [List.pairwise_iff_getElem]
  intro i j hi hj hij
  have := srt_rise hok hs hij hj
  rwa [nthE_get _ _ hj, nthE_get _ _ hi] at this
theorem rise_uniq : ∀ {vs ts : List Es}, RiseK vs → RiseK ts → vs.Perm ts → vs = ts
  | [], ts, _, _, hp => by rw [hp.symm.eq_nil]
  | a :: vs, [], _, _, hp => by have := hp.length_eq; simp at this
  | a :: vs, b :: ts, h1, h2, hp => by
    unfold RiseK at h1 h2
    rw [List.pairwise_cons] at h1 h2
    have e : a = b := by
      have ha : a ∈ b :: ts := hp.mem_iff.1 (List.mem_cons_self ..)
      have hb : b ∈ a :: vs := hp.mem_iff.2 (List.mem_cons_self ..)
      rw [List.mem_cons] at ha hb
      rcases ha with rfl | ha
      · rfl
      · rcases hb with rfl | hb
        · rfl
        · have x1 := h2.1 a ha
          have x2 := h1.1 b hb
          omega
    subst e
    rw [rise_uniq h1.2 h2.2 ((List.perm_cons a).1 hp)]
theorem srt_uniq {l vs ts : List Es} (hok : OkT l) (h1 : Srt l vs) (h2 : Srt l ts) : vs = ts :=
  rise_uniq (rise_of hok h1) (rise_of hok h2) (h1.1.trans h2.1.symm)
/-- n is where a key goes among keys that rise -/
def InsAt (vs : List Es) (key n : Nat) : Prop := n ≤ vs.length ∧ (∀ i, i < n → (nthE vs i).k < key) ∧ (n < vs.length → ¬ (nthE vs n).k < key)
def insE (vs : List Es) (n : Nat) (s : Es) : List Es := vs.take n ++ s :: vs.drop n
theorem insE_perm (vs : List Es) (n : Nat) (s : Es) : (insE vs n s).Perm (s :: vs) := by
  unfold insE
  refine List.perm_middle.trans ?_
  rw [List.take_append_drop]
theorem insE_rise {vs : List Es} {n : Nat} {s : Es} (h : RiseK vs) (ha : InsAt vs s.k n) (hne : ∀ x ∈ vs, x.k ≠ s.k) : RiseK (insE vs n s) := by
  obtain ⟨h1, h2, h3⟩ := ha
  unfold RiseK at *
  have hg := List.pairwise_iff_getElem.1 h
  have hlo : ∀ x ∈ vs.take n, x.k < s.k := fun x hx => by
    obtain ⟨i, hi, rfl⟩ := List.getElem_of_mem hx
    rw [List.length_take] at hi
    have := h2 i (by omega)
    rw [nthE_get vs i (by omega)] at this
    simpa using this
  have hhi : ∀ x ∈ vs.drop n, s.k < x.k := fun x hx => by
    have hm := hne x (List.mem_of_mem_drop hx)
    obtain ⟨i, hi, rfl⟩ := List.getElem_of_mem hx
    rw [List.length_drop] at hi
    rw [List.getElem_drop] at hm ⊢
    have h4 := h3 (by omega)
    rw [nthE_get vs n (by omega)] at h4
    by_cases e : i = 0
    · subst e
      simp only [Nat.add_zero] at hm ⊢
      omega
    · have := hg n (n + i) (by omega) (by omega) (by omega)
      omega
  unfold insE
  rw [List.pairwise_append]
  refine ⟨h.sublist (List.take_sublist _ _), List.pairwise_cons.2 ⟨hhi, h.sublist (List.drop_sublist _ _)⟩, fun a ha b hb => ?_⟩
  rcases List.mem_cons.1 hb with rfl | hb
  · exact hlo a ha
  · exact Nat.lt_trans (hlo a ha) (hhi b hb)

theorem own_emptyU (w w' : World) (B : Nat) (hB : B ≤ w.heap.size) (h : w'.heap = (w.alloc (.cells #[] 25)).heap) : w'.ownsRow B 25 1 (.slice (some ⟨w.heap.size, 0, none⟩) 0 0) 0 [] :=
  ⟨rfl, .inr ⟨w.heap.size, 0, #[], rfl, hB, by rw [h]; exact heap_alloc_new _ _, Nat.le_refl _, Nat.zero_le _, rfl, rfl⟩⟩
theorem run_append_noneU {w : World} (ty : TypeId) (v : Value) (n c : Nat) (xs : List Value) (base : Nat) (hown : w.ownsRow base 25 1 v n xs) :
    (Builtin.append_ #[26, 26] ty #[v, .slice none 0 c]).run Tryd.prog w = .ok v w := by
  obtain ⟨i0, hi, hz0, hz1, hz2⟩ := info_parts info_u64
  obtain ⟨_, ⟨rfl, rfl⟩ | ⟨g, cap, cur, rfl, _, hg, hc, hm, _, _⟩⟩ := hown
  · simp [Builtin.append_, run_underlying Tryd.underlying26, sizeOf, typeInfo, hi, hz1, Builtin.lenOf, Builtin.firstCells, storeCells]
  · have h1 : ¬ (9223372036854775807 < (n : Int)) := by unfold maxLen at hm; omega
    have hl : ∀ (x : Addr), (loadCells x 0).run Tryd.prog w = .ok #[] w := fun x => by simpa using run_loadCells_list (P := Tryd.prog) w x [] (by simp)
    simp [Builtin.append_, run_underlying Tryd.underlying26, sizeOf, typeInfo, hi, hz1, Builtin.lenOf, Builtin.firstCells, storeCells, hc, hl, h1]
theorem wp_appendU {w : World} {o : Oper} {a : Act} {K : Act → World → Prop} {Q : Exit → Act → World → Prop} (s x : Operand)
    (ho : o.op = .call { callee := .builtin .append, args := #[s, x], argTypes := #[26, 26] })
    (base : Nat) (A : Option Addr) (cap n : Nat) (xs : List Value) (hs : a.eval s = .slice A n cap) (hown : w.ownsRow base 25 1 (.slice A n cap) n xs)
    (Ao : Option Addr) (m c : Nat) (news : List Value) (hx : a.eval x = .slice Ao m c) (hl : news.length = m) (hpos : 0 < m → ∃ b off, Ao = some ⟨b, off, none⟩ ∧ ∀ j u, news[j]? = some u → w.cell? ⟨b, off + j, none⟩ = some u) (h1 : ∀ u ∈ news, u.oneCell' = true)
    (hsm : n + m ≤ 2000000000) (hbase : base ≤ w.heap.size)
    (h : ∀ A' cap' w', w'.ownsRow base 25 1 (.slice A' (n + m) cap') (n + m) (xs ++ news) → w.grownBy w' (A.map fun a => a.block) → Below base w w' → w.heap.size ≤ w'.heap.size → K (a.put o.dst (.slice A' (n + m) cap')) w') :
    Oper.wp Tryd.prog o a w K Q := by
  obtain ⟨i0, hi, hz0, hz1, hz2⟩ := info_parts info_u64
  have key : ∃ A' cap' w', (Builtin.append_ #[26, 26] o.type #[.slice A n cap, .slice Ao m c]).run Tryd.prog w = .ok (.slice A' (n + m) cap') w' ∧ w'.ownsRow base 25 1 (.slice A' (n + m) cap') (n + m) (xs ++ news) ∧ w.grownBy w' (A.map fun a => a.block) ∧ Below base w w' := by
    have hob : (Value.slice A n cap).ownBlock = A.map fun a => a.block := by cases A <;> rfl
    by_cases hm : 0 < m
    · obtain ⟨b, off, rfl, hc⟩ := hpos hm
      obtain ⟨g, cap', w', h2, h3, h4, _, _⟩ := run_append_lies (P := Tryd.prog) w 26 o.type base 25 i0 _ 1 8 Tryd.underlying26 hi hz0 hz1 hz2 rfl (by omega) (.slice A n cap) n xs hown ⟨b, off, none⟩ m c news (by omega) (fun j u hj => by rw [add_form]; exact hc j u hj) h1 hm (by unfold maxLen; omega) (by omega) hbase _ rfl
      exact ⟨_, cap', w', h2, h3, by rw [← hob]; exact h4, (Below.refl _ _).grown h4 hbase (fun k hk => (hown.lt k hk).1)⟩
    · obtain rfl : m = 0 := by omega
      obtain rfl : news = [] := List.eq_nil_of_length_eq_zero (by omega)
      cases Ao with
      | none => exact ⟨A, cap, w, run_append_noneU _ _ n c xs base hown, by simpa using hown, ⟨rfl, rfl, rfl, Nat.le_refl _, fun _ _ _ => rfl⟩, Below.refl _ _⟩
      | some ad =>
        obtain ⟨v', w', h2, h3, h4, h5, _⟩ := run_append_own_at (P := Tryd.prog) w base 26 o.type 25 i0 _ 1 8 Tryd.underlying26 hi hz0 hz1 hz2 rfl (by omega) (.slice A n cap) n xs hown ad 0 c [] (by simp) (fun j u hj => by simp at hj) (by simp) (by unfold maxLen; omega) (by omega) hbase
        have hb := (Below.refl base w).grown h4 hbase (fun k hk => (hown.lt k hk).1)
        rcases h3.2 with ⟨e, e2⟩ | ⟨g, cap', cur, e, _⟩
        · obtain rfl : n = 0 := by omega
          rw [e] at h2 h3
          exact ⟨none, 0, w', h2, by simpa using h3, by rw [← hob]; exact h4, hb⟩
        · rw [e] at h2 h3
          exact ⟨_, cap', w', h2, by simpa using h3, by rw [← hob]; exact h4, hb⟩
  obtain ⟨A', cap', w', h2, h3, h5, h4⟩ := key
  unfold Oper.wp execOp
  simp only [ho, resolve, invoke, builtin, Sem.run_bind, Sem.run_pure, Result.andThen_ok, List.map_toArray, List.map_cons, List.map_nil, hs, hx, h2]
  exact h A' cap' w' h3 h5 h4 h4.size

def InsT (l : List Es) (k : Nat) (ts : List Es) : Prop := ts.Perm (us (l.take k)) ∧ RiseK ts
theorem us_take (l : List Es) (k : Nat) (h : k < l.length) : us (l.take (k + 1)) = us (l.take k) ++ if (nthE l k).s = 1 then [nthE l k] else [] := by
  rw [take_nthE l k h]
  unfold us
  rw [List.filter_append]
  by_cases e : (nthE l k).s = 1 <;> simp [List.filter_cons, e]
theorem insT_zero (l : List Es) : InsT l 0 [] := ⟨by simp [us], List.Pairwise.nil⟩
theorem insT_skip {l : List Es} {k : Nat} {ts : List Es} (hk : k < l.length) (h : (nthE l k).s ≠ 1) (hi : InsT l k ts) : InsT l (k + 1) ts :=
  ⟨by rw [us_take l k hk, if_neg h, List.append_nil]; exact hi.1, hi.2⟩
theorem insT_mem {l : List Es} {k : Nat} {ts : List Es} (hi : InsT l k ts) {x : Es} (hx : x ∈ ts) : ∃ i, i < k ∧ i < l.length ∧ nthE l i = x ∧ x.s = 1 := by
  have h := hi.1.mem_iff.1 hx
  unfold us at h
  rw [List.mem_filter] at h
  obtain ⟨h1, h2⟩ := h
  obtain ⟨i, hi2, rfl⟩ := List.getElem_of_mem h1
  have h3 := hi2
  rw [List.length_take] at h3
  refine ⟨i, by omega, by omega, ?_, by simpa using h2⟩
  rw [nthE_get l i (by omega), List.getElem_take]
theorem insT_wd {l : List Es} (hw : ∀ s ∈ l, EW s) {k : Nat} {ts : List Es} (hi : InsT l k ts) : ∀ s ∈ ts, EW s := fun s hs => by
  obtain ⟨i, _, h2, h3, _⟩ := insT_mem hi hs
  rw [← h3]
  exact hw _ (nthE_mem l i h2)
theorem insT_add {l : List Es} (hok : OkT l) {k : Nat} {ts : List Es} {n : Nat} (hk : k < l.length) (h : (nthE l k).s = 1) (hi : InsT l k ts) (ha : InsAt ts (nthE l k).k n) : InsT l (k + 1) (insE ts n (nthE l k)) := by
  refine ⟨?_, insE_rise hi.2 ha fun x hx e => ?_⟩
  · rw [us_take l k hk, if_pos h]
    exact ((insE_perm _ _ _).trans (hi.1.cons _)).trans (List.perm_append_singleton _ _).symm
  · obtain ⟨i, h1, h2, rfl, h4⟩ := insT_mem hi hx
    have a := (hok.hit h2 (isK_iff.2 ⟨h4, e⟩)).1
    have b := (hok.hit hk (isK_iff.2 ⟨h, rfl⟩)).1
    omega
theorem srt_of_ins {l ts : List Es} (h : InsT l l.length ts) : Srt l ts :=
  ⟨by have := h.1; rwa [List.take_length] at this, fun i j hij hj => by
    have := List.pairwise_iff_getElem.1 h.2 i j (by omega) hj hij
    rw [nthE_get _ _ (by omega), nthE_get _ _ hj]
    omega⟩
theorem keys_ins (ts : List Es) (n : Nat) (s : Es) : vals (keysE (insE ts n s)) = vals (keysE (ts.take n)) ++ [.int .u64 (s.k : Nat)] ++ vals (keysE (ts.drop n)) := by simp [insE, keysE, vals]
theorem vals_ins (ts : List Es) (n : Nat) (s : Es) : vals (valsE (insE ts n s)) = vals (valsE (ts.take n)) ++ [.int .u64 (s.v : Nat)] ++ vals (valsE (ts.drop n)) := by simp [insE, valsE, vals]
theorem insE_len (ts : List Es) (n : Nat) (s : Es) (hn : n ≤ ts.length) : (insE ts n s).length = ts.length + 1 := by simp [insE]; omega
/-- the words of the first n, and of the rest -/
theorem keys_cut (ts : List Es) (n : Nat) : vals (keysE ts) = vals (keysE (ts.take n)) ++ vals (keysE (ts.drop n)) := by
  have h := List.take_append_drop n ts
  conv => lhs; rw [← h]
  simp only [keysE, vals, List.map_append]
theorem vals_cut (ts : List Es) (n : Nat) : vals (valsE ts) = vals (valsE (ts.take n)) ++ vals (valsE (ts.drop n)) := by
  have h := List.take_append_drop n ts
  conv => lhs; rw [← h]
  simp only [valsE, vals, List.map_append]
theorem len_vk (ts : List Es) : (vals (keysE ts)).length = ts.length := by simp [keysE, vals]
theorem len_vv (ts : List Es) : (vals (valsE ts)).length = ts.length := by simp [valsE, vals]
end Go.Proofs.YtloemeinpknamaaDoor
