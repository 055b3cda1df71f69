/- What the law TopTables wants: what becomes of a table; the questions (begins); keys and handles go together: plain facts. -/
import Derived.Test.YtdeopodfpeeenaaDoorY11
import Derived.Test.YtdeopodfpeeenaaDoorW6
import Derived.Test.YtdeopodfpeeenaaDoorPuts
import Derived.Test.YtdeopodfpeeenaaDoorAgree
namespace Go.Proofs.YtdeopodfpeeenaaDoor
open Go.RowKit
set_option linter.unusedVariables false
set_option linter.unusedSimpArgs false

theorem frees_lay2 (l : List Es) (key v v' : Nat) : frees (lay l key v) = frees (lay l key v') := by
  by_cases hp : pl l key < l.length
  · have a := frees_lay hp v
    have b := frees_lay hp v'
    omega
  · unfold lay
    rw [List.set_eq_of_length_le (by omega), List.set_eq_of_length_le (by omega)]
theorem has_nil (k v : Nat) : ¬ Has [] k v := by rintro ⟨i, hi, _⟩; simp at hi
theorem OkT.has_fd {l : List Es} (h : OkT l) (key v : Nat) : Has l key v ↔ fd l key < l.length ∧ v = (nthE l (fd l key)).v := by
  constructor
  · rintro ⟨i, hi, hk, rfl⟩
    have e := (h.hit hi hk).1
    rw [e]; exact ⟨hi, rfl⟩
  · rintro ⟨hf, rfl⟩
    exact ⟨_, hf, fd_is hf, rfl⟩
/-- a key has one value at most, and is not 0 -/
theorem OkT.one {l : List Es} (h : OkT l) {k v v' : Nat} (h1 : Has l k v) (h2 : Has l k v') : v = v' := by
  rw [h.has_fd] at h1 h2
  rw [h1.2, h2.2]
theorem OkT.hk0 {l : List Es} (h : OkT l) {k v : Nat} (h1 : Has l k v) : k ≠ 0 := by
  obtain ⟨i, hi, hk, hv⟩ := h1
  exact (h.good (by omega)).k0 ⟨i, hi, hk, hv⟩
/-- what Put does, where it does -/
structure PutOk (l : List Es) (key val : Nat) (r : List Es) : Prop where
  okl : OkT l
  k0 : key ≠ 0
  okr : OkT r
  has : ∀ k v, Has r k v ↔ (k = key ∧ v = val) ∨ (k ≠ key ∧ Has l k v)
  old : (∃ v, Has l key v) → useds r = useds l
  new : (¬ ∃ v, Has l key v) → useds r = useds l + 1
theorem has_split {l : List Es} {key val : Nat} (hn : ¬ ∃ v, Has l key v) (k v : Nat) : ((k = key ∧ v = val) ∨ Has l k v) ↔ (k = key ∧ v = val) ∨ (k ≠ key ∧ Has l k v) := by
  constructor
  · rintro (h | h)
    · exact .inl h
    · exact .inr ⟨fun e => hn ⟨v, by rw [← e]; exact h⟩, h⟩
  · rintro (h | h)
    · exact .inl h
    · exact .inr h.2
theorem reb_good {l : List Es} (h : OkT l) (hs : szN (us l).length ≤ 64) : GoodT (reb l (szN (us l).length)) ∧ useds (reb l (szN (us l).length)) = useds l ∧ frees (reb l (szN (us l).length)) + useds l = szN (us l).length ∧ ∀ k v, Has (reb l (szN (us l).length)) k v ↔ Has l k v := by
  have hz := szN_sz hs
  have h2 := szN_u hs
  by_cases hu : 0 < (us l).length
  · obtain ⟨a, b, c, d⟩ := rebK_inv (h.gd hu) hz (by omega) (us l).length (Nat.le_refl _)
    refine ⟨a, b.trans (us_len l), by rw [← us_len]; exact c, fun k v => ?_⟩
    unfold reb
    rw [d, us_has]
  · have e0 : reb l (szN (us l).length) = List.replicate (szN (us l).length) es0 := by
      unfold reb rebK
      rw [show (us l).length = 0 by omega]
      rfl
    have hul : useds l = 0 := by rw [← us_len]; omega
    rw [e0]
    refine ⟨good_rep hz, by rw [useds_rep, hul], ?_, fun k v => ⟨?_, ?_⟩⟩
    · have : frees (List.replicate (szN (us l).length) es0) = (List.replicate (szN (us l).length) es0).length := by
        unfold frees
        rw [List.countP_eq_length]
        intro x hx
        rw [List.eq_of_mem_replicate hx]
        decide
      rw [this, hul]; simp
    · rintro ⟨i, hi, hk, _⟩
      rw [nthE_rep] at hk
      exact absurd (isK_iff.1 hk).1 (by decide)
    · intro h9
      rw [us_has] at h9
      obtain ⟨j, hj, _⟩ := h9
      omega
theorem PutT.ok {l : List Es} {key val : Nat} {r : List Es} {y : Int} (h : PutT l key val r y) (hy : y = 0) : PutOk l key val r := by
  subst hy
  rcases h with ⟨_, _, e⟩ | ⟨_, _, _, e⟩ | ⟨hok, h0, hf, rfl, _⟩ | ⟨hok, h0, hf, ha, rfl, _⟩ | ⟨_, _, _, _, _, _, e⟩ | ⟨hok, h0, hf, ha, hs, rfl, _⟩
  · cases e
  · cases e
  · have hg := hok.good (by omega)
    obtain ⟨a, b, c, d⟩ := hg.upd val hf (fd_is hf)
    have h3 := (hok.x (by omega)).2.2
    have hlen : (updA l (fd l key) val).length = l.length := by unfold updA; simp
    exact ⟨hok, h0, .of_x a.sz a.x (by rw [c, hlen]; exact h3), d, fun _ => b, fun hn => absurd ⟨_, (hok.has_fd key _).2 ⟨hf, rfl⟩⟩ hn⟩
  · have hn : ¬ ∃ v, Has l key v := fun ⟨v, hv⟩ => hf ((hok.has_fd key v).1 hv).1
    have hg := hok.good (by have := ha.1; omega)
    have h3 := (hok.x (by have := ha.1; omega)).2.2
    have hfu := fu_le l
    obtain ⟨a, b, c, d⟩ := hg.lay val h0 hn (by have := ha.1; omega)
    exact ⟨hok, h0, .of_x a.sz a.x (by rw [lay_len, frees_lay2 l key val 0]; exact ha.2), fun k v => (c k v).trans (has_split hn k v), fun h9 => absurd h9 hn, fun _ => b⟩
  · cases e
  · have hn : ¬ ∃ v, Has l key v := fun ⟨v, hv⟩ => hf ((hok.has_fd key v).1 hv).1
    obtain ⟨g1, g2, g3, g4⟩ := reb_good hok hs
    have h2 := szN_u hs
    have hul := us_len l
    have hlen : (reb l (szN (us l).length)).length = szN (us l).length := rebK_len _ _ _
    have hn' : ¬ ∃ v, Has (reb l (szN (us l).length)) key v := fun ⟨v, hv⟩ => hn ⟨v, (g4 _ _).1 hv⟩
    obtain ⟨a, b, c, d⟩ := g1.lay val h0 hn' (by omega)
    have hfl := frees_lay d val
    refine ⟨hok, h0, .of_x a.sz a.x (by rw [lay_len]; split at hfl <;> omega), fun k v => (c k v).trans ?_, fun h9 => absurd h9 hn, fun _ => by rw [b, g2]⟩
    rw [g4]
    exact has_split hn k v
theorem PutT.no {l : List Es} {key val : Nat} {r : List Es} {y : Int} (h : PutT l key val r y) (hy : y ≠ 0) : (¬ OkT l ∧ r = [] ∧ y = 2) ∨ (OkT l ∧ r = l ∧ (key = 0 ∧ y = 7 ∨ y = 6 ∧ 64 < szN (us l).length)) := by
  rcases h with h | ⟨a, b, c, d⟩ | ⟨_, _, _, _, e⟩ | ⟨_, _, _, _, _, e⟩ | ⟨a, b, c, d, e, f, g⟩ | ⟨_, _, _, _, _, _, e⟩
  · exact .inl h
  · exact .inr ⟨a, c, .inl ⟨b, d⟩⟩
  · exact absurd e hy
  · exact absurd e hy
  · exact .inr ⟨a, f, .inr ⟨g, e⟩⟩
  · exact absurd e hy
theorem PutT.room {l : List Es} {key val : Nat} {r : List Es} {y : Int} (h : PutT l key val r y) (hok : OkT l) (hk : key ≠ 0) (hu : useds l ≤ 31) : y = 0 := by
  refine Classical.byContradiction fun hy => ?_
  rcases h.no hy with ⟨h9, _⟩ | ⟨_, _, ⟨h9, _⟩ | ⟨_, h9⟩⟩
  · exact h9 hok
  · exact hk h9
  · rw [us_len] at h9
    have := szN_cases (useds l)
    omega
/-- what Del of one key does -/
structure DelOk (l : List Es) (key : Nat) (r : List Es) (n : Nat) : Prop where
  okr : OkT r
  has : ∀ k v, Has r k v ↔ k ≠ key ∧ Has l k v
  hit : (∃ v, Has l key v) → n = 1 ∧ useds r + 1 = useds l
  miss : (¬ ∃ v, Has l key v) → n = 0 ∧ useds r = useds l
theorem DelT.ok {l : List Es} {key : Nat} {r : List Es} {n : Nat} {y : Int} (h : DelT l [key] r n y) (hok : OkT l) : DelOk l key r n ∧ y = 0 := by
  rcases h with ⟨h9, _⟩ | ⟨_, rfl, rfl, rfl⟩
  · exact absurd hok h9
  · refine ⟨?_, rfl⟩
    show DelOk l key (delK l key) (0 + if fd l key < l.length then 1 else 0)
    by_cases hf : fd l key < l.length
    · have e : delK l key = delA l (fd l key) := by unfold delK; rw [if_pos hf]
      obtain ⟨a, b, c, d⟩ := (hok.good (by omega)).del hf (fd_is hf)
      rw [if_pos hf, e]
      exact ⟨by rw [← e]; exact hok.delK key, d, fun _ => ⟨rfl, b⟩, fun hn => absurd ⟨_, (hok.has_fd key _).2 ⟨hf, rfl⟩⟩ hn⟩
    · have e : delK l key = l := by unfold delK; rw [if_neg hf]
      have hn : ¬ ∃ v, Has l key v := fun ⟨v, hv⟩ => hf ((hok.has_fd key v).1 hv).1
      rw [if_neg hf, e]
      exact ⟨hok, fun k v => ⟨fun h => ⟨fun ek => hn ⟨v, by rw [← ek]; exact h⟩, h⟩, fun h => h.2⟩, fun h => absurd h hn, fun _ => ⟨rfl, rfl⟩⟩
theorem GetT.has {l : List Es} {key v : Nat} {y : Int} (h : GetT l key v y) (hok : OkT l) : (y = 0 ∧ Has l key v) ∨ ((y = 3 ∧ key ≠ 0 ∨ y = 7 ∧ key = 0) ∧ v = 0 ∧ ¬ ∃ v, Has l key v) := by
  rcases h with ⟨h9, _⟩ | ⟨_, h0, hv, hy⟩ | ⟨_, h0, hf, hv, hy⟩ | ⟨_, h0, hf, hv, hy⟩
  · exact absurd hok h9
  · exact .inr ⟨.inr ⟨hy, h0⟩, hv, fun ⟨v, h9⟩ => hok.hk0 h9 h0⟩
  · exact .inr ⟨.inl ⟨hy, h0⟩, hv, fun ⟨v, h9⟩ => hf ((hok.has_fd key v).1 h9).1⟩
  · exact .inl ⟨hy, (hok.has_fd key v).2 ⟨hf, hv⟩⟩
theorem GetT.of_has {l : List Es} {key v : Nat} (hok : OkT l) (h : Has l key v) : GetT l key v 0 := by
  have := (hok.has_fd key v).1 h
  exact .inr (.inr (.inr ⟨hok, hok.hk0 h, this.1, this.2, rfl⟩))
theorem GetT.of_no {l : List Es} {key : Nat} (hok : OkT l) (h0 : key ≠ 0) (h : ¬ ∃ v, Has l key v) : GetT l key 0 3 :=
  .inr (.inr (.inl ⟨hok, h0, fun hf => h ⟨_, (hok.has_fd key _).2 ⟨hf, rfl⟩⟩, rfl, rfl⟩))
theorem okT_nil : OkT [] := .inl rfl
theorem hin_clr_in {t gs : List Nat} {a : Nat} (h : a ∈ gs) : hin (clrT t gs) a = 0 := by
  by_cases ha : a = 0
  · rw [ha, hin_zero]
  · refine hin_miss fun j hj => ?_
    rw [clrT_at]
    split
    · exact fun e => ha e.symm
    · rename_i hn
      exact fun e => hn (by rw [e]; exact h)
theorem hin_clr_out {t gs : List Nat} {a : Nat} (h : ¬ a ∈ gs) : hin (clrT t gs) a = hin t a := by
  by_cases ha : a = 0
  · rw [ha, hin_zero, hin_zero]
  · by_cases hh : hin t a = 0
    · rw [hh]
      refine hin_miss fun j hj => ?_
      rw [clrT_at]
      split
      · exact fun e => ha e.symm
      · rw [clrT_len] at hj
        exact hin_none ha hh j hj
    · obtain ⟨_, p1, p2, p3⟩ := hin_pos hh
      have := hin_hit (t := clrT t gs) (a := a) (k := hin t a - 1) ha (by rw [clrT_len]; omega) (by rw [clrT_at, p2, if_neg h]) (fun j hj => by
        rw [clrT_at]
        split
        · exact fun e => ha e.symm
        · exact p3 j hj)
      rw [this]
      omega
set_option maxHeartbeats 1000000 in
theorem begins_any (w : World) : Calls Tryd.prog 4 #[] w fun e w' => e = .returned (.bool true) ∧ Below w.heap.size w w' := by
  go_enter Tryd.func4, Tryd.ntmps4
  go_wp2_with fail
  go_at_call 12
  refine ((make_ok 70 _ (by omega) (by omega)).mono fun _ _ h => h.got (vs := [0, 0]) rfl).mono ?_
  rintro e w1 ⟨u1, A1, cap1, hu1, rfl, ho1, hb_w1⟩
  obtain ⟨hc_w1, hf_w1⟩ := bcell hb_w1; have hs_w1 := hb_w1.size; (try simp only [World.size_alloc, World.size_setCell, World.size_drew, World.heap_drewN] at hs_w1)
  have hR1 : Hid (Right 70 u1) := Lib.hid (by rw [hu1.out]; exact right70)
  go_wp2_with fail
  go_at_call 13
  refine ((put_in cap1 true 69 (ho1.row.later (by repeat (first | exact Below.refl _ _ | assumption | (refine below_drewN ?_ _) | (refine Below.drew ?_) | (refine Below.alloc ?_ (by first | omega | (simp; omega) | simp) _) | (refine Below.setCell ?_ (by first | omega | (simp; omega) | simp) _) | (refine below_trans ?_ (by assumption) (by first | omega | (simp; omega) | simp))))) hR1.out (by omega) (by omega)).mono fun _ _ h => h.got (vs := [0, 32]) (by rw [hu1.out]; decide)).mono ?_
  rintro e w2 ⟨u2, A2, cap2, hu2, rfl, ho2, hb_w2⟩
  obtain ⟨hc_w2, hf_w2⟩ := bcell hb_w2; have hz_w2_w1_0 : w1.heap.size < w2.heap.size := (by have hzz := hb_w2.size; (try simp only [World.size_alloc, World.size_setCell, World.size_drew, World.heap_drewN] at hzz); omega); have hs_w2 := hb_w2.size; (try simp only [World.size_alloc, World.size_setCell, World.size_drew, World.heap_drewN] at hs_w2)
  have hR2 : Hid (Right 70 u2) := Lib.hid (by rw [hu2.out]; exact right70')
  have t2 : Two w2 w1.heap.size _ _ := (Two.new w1 _ _ _).below hb_w2 (by first | omega | (simp; omega) | simp)
  obtain ⟨q0, q1, _⟩ := id t2
  have s0 : ∀ V, (w2.setCell ⟨w1.heap.size, 0, none⟩ V).cell? ⟨w1.heap.size, 0, none⟩ = some V := fun V => World.cell?_setCell_same _ _ _ q0
  have s1 : ∀ V V', ((w2.setCell ⟨w1.heap.size, 0, none⟩ V).setCell ⟨w1.heap.size, 1, none⟩ V').cell? ⟨w1.heap.size, 1, none⟩ = some V' := fun V V' => (set_two V V' q0 q1).2
  have s2 : ∀ V V', ((w2.setCell ⟨w1.heap.size, 0, none⟩ V).setCell ⟨w1.heap.size, 1, none⟩ V').cell? ⟨w1.heap.size, 0, none⟩ = some V := fun V V' => (set_two V V' q0 q1).1
  have r2 := (ho2.two (g := w1.heap.size) (u := .int .i64 70) (v := .slice A2 u2.length cap2) (by first | omega | (simp; omega) | simp))
  go_wp2_with fail
  go_at_call 14
  refine (count_ok cap2 r2.row hR2.out).mono ?_
  rintro e w3 ⟨rfl, hb_w3⟩
  obtain ⟨hc_w3, hf_w3⟩ := bcell hb_w3; have hz_w3_w1_0 : w1.heap.size < w3.heap.size := (by have hzz := hb_w3.size; (try simp only [World.size_alloc, World.size_setCell, World.size_drew, World.heap_drewN] at hzz); omega); have hs_w3 := hb_w3.size; (try simp only [World.size_alloc, World.size_setCell, World.size_drew, World.heap_drewN] at hs_w3)
  rw [show countTo u2 (70 : Int).toNat = 1 by rw [hu2.out]; decide]
  go_wp2
  go_ret
  exact ⟨rfl, (by repeat (first | exact Below.refl _ _ | assumption | (refine below_drewN ?_ _) | (refine Below.drew ?_) | (refine Below.alloc ?_ (by first | omega | (simp; omega) | simp) _) | (refine Below.setCell ?_ (by first | omega | (simp; omega) | simp) _) | (refine below_trans ?_ (by assumption) (by first | omega | (simp; omega) | simp))))⟩


/-- the keys of a table -/
def kys (l : List Es) : List Nat := (us l).map fun s => s.k
theorem kys_len (l : List Es) : (kys l).length = useds l := by unfold kys; rw [List.length_map, us_len]
theorem mem_kys {l : List Es} {a : Nat} : a ∈ kys l ↔ ∃ v, Has l a v := by
  unfold kys
  rw [List.mem_map]
  constructor
  · rintro ⟨s, hs, rfl⟩
    obtain ⟨j, hj, rfl⟩ := List.getElem_of_mem hs
    exact ⟨_, us_has.2 ⟨j, hj, by rw [nthE_get _ _ hj], rfl⟩⟩
  · rintro ⟨v, hv⟩
    obtain ⟨j, hj, h1, h2⟩ := us_has.1 hv
    exact ⟨(us l)[j], List.getElem_mem hj, by rw [← nthE_get _ _ hj]; exact h1⟩
theorem kys_nodup {l : List Es} (h : OkT l) : (kys l).Nodup := by
  by_cases h0 : l.length = 0
  · obtain rfl := List.eq_nil_of_length_eq_zero h0
    simp [kys, us]
  · have := us_pair (h.good h0)
    unfold kys List.Nodup
    rw [List.pairwise_map]
    exact this
/-- handles of addresses, none twice -/
def GoodH (t : List Nat) : Prop := OkW t ∧ ∀ x ∈ t, x ≠ 0
theorem GoodH.nodup {t : List Nat} (h : GoodH t) : t.Nodup := by
  unfold List.Nodup
  rw [List.pairwise_iff_getElem]
  intro i j hi hj hij e
  have hg : ∀ k (hk : k < t.length), t.getD k 0 = t[k] := fun k hk => by simp [List.getD_eq_getElem?_getD, hk]
  rcases h.1.2 j hj with h1 | h1
  · rw [hg j hj] at h1
    exact h.2 _ (List.getElem_mem hj) h1
  · exact h1 i hij (by rw [hg i hi, hg j hj, e])
theorem mem_hin {t : List Nat} {a : Nat} (h : GoodH t) : a ∈ t ↔ hin t a ≠ 0 := by
  constructor
  · intro hm h0
    have ha := h.2 a hm
    obtain ⟨i, hi, e⟩ := List.getElem_of_mem hm
    exact hin_none ha h0 i hi (by simp [List.getD_eq_getElem?_getD, hi, e])
  · intro h0
    obtain ⟨_, h2, h3, _⟩ := hin_pos h0
    have hl : hin t a - 1 < t.length := by omega
    rw [← h3]
    simp only [List.getD_eq_getElem?_getD, List.getElem?_eq_getElem hl, Option.getD_some]
    exact List.getElem_mem hl
/-- what the two hold behind k addresses -/
structure Both2 (xs : List Nat) (k : Nat) (l : List Es) (t : List Nat) : Prop where
  okt : OkT l
  okh : GoodH t
  inT : ∀ a, (∃ v, Has l a v) ↔ a ≠ 0 ∧ a ∈ xs.take k
  inH : ∀ a, a ∈ t ↔ a ≠ 0 ∧ a ∈ xs.take k
theorem Both2.perm {xs : List Nat} {k : Nat} {l : List Es} {t : List Nat} (h : Both2 xs k l t) : (kys l).Perm t :=
  (List.perm_ext_iff_of_nodup (kys_nodup h.okt) h.okh.nodup).2 fun a => by rw [mem_kys, h.inT, h.inH]
theorem Both2.len {xs : List Nat} {k : Nat} {l : List Es} {t : List Nat} (h : Both2 xs k l t) : useds l = t.length := by rw [← kys_len, h.perm.length_eq]
theorem Both2.zero (xs : List Nat) : Both2 xs 0 [] [] := ⟨okT_nil, ⟨okW_nil, fun x hx => by simp at hx⟩, fun a => by simp [has_nil], fun a => by simp⟩
theorem take_getD {xs : List Nat} {k : Nat} (hk : k < xs.length) (a : Nat) : a ∈ xs.take (k + 1) ↔ a ∈ xs.take k ∨ a = xs.getD k 0 := by
  rw [List.take_succ_eq_append_getElem hk, List.mem_append, List.mem_singleton]
  simp [List.getD_eq_getElem?_getD, hk]
theorem nodup_le {t xs : List Nat} (ht : t.Nodup) (h : ∀ a ∈ t, a ∈ xs) : t.length ≤ xs.length := by
  induction t generalizing xs with
  | nil => simp
  | cons a t ih =>
    rw [List.nodup_cons] at ht
    have ha := h a (List.mem_cons_self ..)
    have := ih (xs := xs.erase a) ht.2 fun b hb => by
      have hb2 := h b (List.mem_cons_of_mem _ hb)
      have hne : b ≠ a := fun e => ht.1 (by rw [← e]; exact hb)
      exact (List.mem_erase_of_ne hne).2 hb2
    rw [List.length_erase_of_mem ha] at this
    have := List.length_pos_of_mem ha
    simp
    omega
theorem Both2.le {xs : List Nat} {k : Nat} {l : List Es} {t : List Nat} (h : Both2 xs k l t) : t.length ≤ k := by
  have := nodup_le h.okh.nodup (xs := xs.take k) fun a ha => ((h.inH a).1 ha).2
  rw [List.length_take] at this
  omega
/-- a round with an address that is not nil -/
theorem Both2.step {xs : List Nat} {k : Nat} {l r : List Es} {t u : List Nat} {v hh : Nat} (h : Both2 xs k l t) (hk : k < xs.length) (ha : xs.getD k 0 ≠ 0) (hp : PutOk l (xs.getD k 0) v r) (hw : MkE t (xs.getD k 0) u hh 0) : Both2 xs (k + 1) r u ∧ 1 ≤ hh := by
  have hin := fun a => mem_hin (a := a) h.okh
  have hT : ∀ a, (∃ v, Has r a v) ↔ a ≠ 0 ∧ a ∈ xs.take (k + 1) := fun a => by
    rw [take_getD hk]
    constructor
    · rintro ⟨v', hv⟩
      rcases (hp.has _ _).1 hv with ⟨e, _⟩ | ⟨_, hv⟩
      · exact ⟨by rw [e]; exact ha, .inr e⟩
      · have := (h.inT a).1 ⟨_, hv⟩
        exact ⟨this.1, .inl this.2⟩
    · rintro ⟨h0, h1 | h1⟩
      · by_cases e : a = xs.getD k 0
        · exact ⟨v, (hp.has _ _).2 (.inl ⟨e, rfl⟩)⟩
        · obtain ⟨v', hv⟩ := (h.inT a).2 ⟨h0, h1⟩
          exact ⟨v', (hp.has _ _).2 (.inr ⟨e, hv⟩)⟩
      · exact ⟨v, (hp.has _ _).2 (.inl ⟨h1, rfl⟩)⟩
  rcases hw with ⟨_, _, _, h9⟩ | ⟨_, _, _, _, h9⟩ | ⟨h1, h2, h3, rfl, rfl, _⟩ | ⟨_, _, _, _, _, _, h9⟩ | ⟨h1, h2, h3, h4, rfl, rfl, _⟩
  · omega
  · omega
  · have hm := (hin _).2 h3
    exact ⟨⟨hp.okr, h.okh, hT, fun a => by
      rw [take_getD hk, h.inH]
      constructor
      · rintro ⟨a1, a2⟩; exact ⟨a1, .inl a2⟩
      · rintro ⟨a1, a2 | a2⟩
        · exact ⟨a1, a2⟩
        · rw [a2]; exact (h.inH _).1 hm⟩, by omega⟩
  · omega
  · have hnm : ¬ xs.getD k 0 ∈ t := fun hm => (hin _).1 hm h3
    refine ⟨⟨hp.okr, ⟨⟨by simp; omega, fun i hi => ?_⟩, fun x hx => ?_⟩, hT, fun a => ?_⟩, by omega⟩
    · by_cases e : i < t.length
      · rcases h1.2 i e with g | g
        · left; rw [List.getD_eq_getElem?_getD, List.getElem?_append_left e, ← List.getD_eq_getElem?_getD]; exact g
        · right
          intro j hj
          have := g j hj
          rwa [List.getD_eq_getElem?_getD, List.getElem?_append_left (by omega), ← List.getD_eq_getElem?_getD, List.getD_eq_getElem?_getD (l := t ++ _), List.getElem?_append_left e, ← List.getD_eq_getElem?_getD]
      · obtain rfl : i = t.length := by simp at hi; omega
        right
        intro j hj
        rw [List.getD_eq_getElem?_getD, List.getElem?_append_left hj, List.getD_eq_getElem?_getD (l := t ++ _), List.getElem?_append_right (Nat.le_refl _)]
        simp only [List.getElem?_eq_getElem hj, Option.getD_some, Nat.sub_self, List.getElem?_cons_zero]
        exact fun e => hnm (by rw [← e]; exact List.getElem_mem hj)
    · rw [List.mem_append, List.mem_singleton] at hx
      rcases hx with hx | rfl
      · exact h.okh.2 x hx
      · exact ha
    · rw [take_getD hk, List.mem_append, List.mem_singleton, h.inH]
      constructor
      · rintro (⟨a1, a2⟩ | a2)
        · exact ⟨a1, .inl a2⟩
        · exact ⟨by rw [a2]; exact ha, .inr a2⟩
      · rintro ⟨a1, a2 | a2⟩
        · exact .inl ⟨a1, a2⟩
        · exact .inr a2
theorem Both2.skip {xs : List Nat} {k : Nat} {l : List Es} {t : List Nat} (h : Both2 xs k l t) (hk : k < xs.length) (ha : xs.getD k 0 = 0) : Both2 xs (k + 1) l t :=
  ⟨h.okt, h.okh, fun a => by
    rw [take_getD hk, h.inT, ha]
    constructor
    · rintro ⟨a1, a2⟩; exact ⟨a1, .inl a2⟩
    · rintro ⟨a1, a2 | a2⟩
      · exact ⟨a1, a2⟩
      · exact absurd a2 a1, fun a => by
    rw [take_getD hk, h.inH, ha]
    constructor
    · rintro ⟨a1, a2⟩; exact ⟨a1, .inl a2⟩
    · rintro ⟨a1, a2 | a2⟩
      · exact ⟨a1, a2⟩
      · exact absurd a2 a1⟩
/-- what is deleted of a table, key by key -/
theorem dlK_has {l : List Es} (h : OkT l) (gs : List Nat) (k : Nat) (hk : k ≤ gs.length) : (∀ a v, Has (dlK l gs k) a v ↔ ¬ a ∈ gs.take k ∧ Has l a v) ∧ useds (dlK l gs k) + dnK l gs k = useds l := by
  induction k with
  | zero => exact ⟨fun a v => by simp [dlK], by simp [dlK, dnK]⟩
  | succ k ih =>
    obtain ⟨i1, i2⟩ := ih (by omega)
    have hok := h.dlK gs k
    have hd : DelT (dlK l gs k) [gs.getD k 0] (delK (dlK l gs k) (gs.getD k 0)) (if fd (dlK l gs k) (gs.getD k 0) < (dlK l gs k).length then 1 else 0) 0 := .inr ⟨hok, rfl, by show _ = 0 + _; rw [Nat.zero_add]; rfl, rfl⟩
    obtain ⟨g, _⟩ := hd.ok hok
    have e1 : dlK l gs (k + 1) = delK (dlK l gs k) (gs.getD k 0) := rfl
    have e2 : dnK l gs (k + 1) = dnK l gs k + if fd (dlK l gs k) (gs.getD k 0) < (dlK l gs k).length then 1 else 0 := by rw [dlK_len]; rfl
    refine ⟨fun a v => ?_, ?_⟩
    · rw [e1, g.has, i1, take_getD (by omega : k < gs.length)]
      constructor
      · rintro ⟨a1, a2, a3⟩; exact ⟨fun h => h.elim a2 a1, a3⟩
      · rintro ⟨a1, a3⟩; exact ⟨fun e => a1 (.inr e), fun e => a1 (.inl e), a3⟩
    · rw [e1, e2]
      by_cases hh : ∃ v, Has (dlK l gs k) (gs.getD k 0) v
      · have := g.hit hh; omega
      · have := g.miss hh; omega
theorem clrH_cnt (t gs : List Nat) (h : ∀ x ∈ t, x ≠ 0) (k : Nat) (hk : k ≤ t.length) : (clrH t gs k).length = ((t.take k).filter fun x => decide (x ∈ gs)).length := by
  induction k with
  | zero => simp [clrH]
  | succ k ih =>
    have hlt : k < t.length := by omega
    have hx : t.getD k 0 = t[k] := by simp [List.getD_eq_getElem?_getD, hlt]
    have h0 := h _ (List.getElem_mem hlt)
    rw [List.take_succ_eq_append_getElem hlt, List.filter_append, List.length_append, ← ih (by omega)]
    show (clrH t gs k ++ if goesW t gs k then [((k + 1 : Nat) : Int)] else []).length = _
    unfold goesW
    rw [hx]
    by_cases e : t[k] ∈ gs <;> simp [e, h0, List.filter_cons]
/-- as many keys are deleted as handles are cleared -/
theorem Both2.count {xs : List Nat} {k : Nat} {l : List Es} {t : List Nat} (h : Both2 xs k l t) (gs : List Nat) : dnK l gs gs.length = (clrH t gs t.length).length := by
  obtain ⟨h1, h2⟩ := dlK_has h.okt gs gs.length (Nat.le_refl _)
  rw [List.take_length] at h1
  have hr := h.okt.dlK gs gs.length
  have hp : (kys (dlK l gs gs.length)).Perm (t.filter fun x => !decide (x ∈ gs)) := (List.perm_ext_iff_of_nodup (kys_nodup hr) (h.okh.nodup.filter _)).2 fun a => by
    rw [mem_kys, List.mem_filter]
    constructor
    · rintro ⟨v, hv⟩
      rw [h1] at hv
      exact ⟨(h.inH a).2 ((h.inT a).1 ⟨v, hv.2⟩), by simpa using hv.1⟩
    · rintro ⟨a1, a2⟩
      obtain ⟨v, hv⟩ := (h.inT a).2 ((h.inH a).1 a1)
      exact ⟨v, (h1 _ _).2 ⟨by simpa using a2, hv⟩⟩
  have e1 : useds (dlK l gs gs.length) = (t.filter fun x => !decide (x ∈ gs)).length := by rw [← kys_len, hp.length_eq]
  have e2 := h.len
  have e3 : t.length = (t.filter fun x => decide (x ∈ gs)).length + (t.filter fun x => !decide (x ∈ gs)).length := by
    clear e1 hp hr h1 h2 e2 h
    induction t with
    | nil => rfl
    | cons a t ih => by_cases e : a ∈ gs <;> simp [List.filter_cons, e] at ih ⊢ <;> omega
  rw [clrH_cnt t gs h.okh.2 t.length (Nat.le_refl _), List.take_length]
  omega
/-- what is asked of both behind that -/
theorem Both2.ask {xs : List Nat} {k : Nat} {l : List Es} {t : List Nat} (h : Both2 xs k l t) (gs : List Nat) (a v hh : Nat) (y1 y2 : Int) (h1 : GetT (dlK l gs gs.length) a v y1) (h2 : HanE (clrT t gs) a hh y2) (hok : OkW (clrT t gs)) (hx : a ∈ xs.take k) : y1 = y2 ∧ (a ≠ 0 → (y1 = 0 ↔ ¬ a ∈ gs)) := by
  obtain ⟨g1, _⟩ := dlK_has h.okt gs gs.length (Nat.le_refl _)
  rw [List.take_length] at g1
  have hr := h.okt.dlK gs gs.length
  by_cases ha : a = 0
  · refine ⟨?_, fun h9 => absurd ha h9⟩
    rcases h1.has hr with ⟨_, h9⟩ | ⟨⟨_, h9⟩ | ⟨e1, _⟩, _⟩
    · exact absurd ha (hr.hk0 h9)
    · exact absurd ha h9
    · rcases h2 with ⟨h9, _⟩ | ⟨_, _, _, e2⟩ | ⟨_, h9, _⟩ | ⟨_, h9, _⟩
      · exact absurd hok h9
      · rw [e1, e2]
      · exact absurd ha h9
      · exact absurd ha h9
  · obtain ⟨v', hv⟩ := (h.inT a).2 ⟨ha, hx⟩
    have hm := (h.inH a).2 ⟨ha, hx⟩
    by_cases hg : a ∈ gs
    · have e1 : y1 = 3 := by
        rcases h1.has hr with ⟨_, h9⟩ | ⟨⟨e1, _⟩ | ⟨_, h9⟩, _⟩
        · exact absurd hg ((g1 _ _).1 h9).1
        · exact e1
        · exact absurd h9 ha
      have e2 : y2 = 3 := by
        rcases h2 with ⟨h9, _⟩ | ⟨_, h9, _⟩ | ⟨_, _, _, _, e2⟩ | ⟨_, _, h9, _⟩
        · exact absurd hok h9
        · exact absurd h9 ha
        · exact e2
        · exact absurd (hin_clr_in hg) h9
      exact ⟨by rw [e1, e2], fun _ => ⟨fun e => by omega, fun e => absurd hg e⟩⟩
    · have e1 : y1 = 0 := by
        rcases h1.has hr with ⟨e1, _⟩ | ⟨_, _, h9⟩
        · exact e1
        · exact absurd ⟨v', (g1 _ _).2 ⟨hg, hv⟩⟩ h9
      have e2 : y2 = 0 := by
        rcases h2 with ⟨h9, _⟩ | ⟨_, h9, _⟩ | ⟨_, _, h9, _⟩ | ⟨_, _, _, _, e2⟩
        · exact absurd hok h9
        · exact absurd h9 ha
        · rw [hin_clr_out hg] at h9
          exact absurd h9 ((mem_hin h.okh).1 hm)
        · exact e2
      exact ⟨by rw [e1, e2], fun _ => ⟨fun _ => hg, fun _ => e1⟩⟩
end Go.Proofs.YtdeopodfpeeenaaDoor
