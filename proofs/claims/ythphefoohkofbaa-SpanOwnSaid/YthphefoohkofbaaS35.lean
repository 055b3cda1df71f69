/- Plain facts of a span that is put among others; the walk of the law SpanBack. -/
import Derived.Test.YthphefoohkofbaaS32
import Derived.Test.YthphefoohkofbaaME
namespace Go.Proofs.Ythphefoohkofbaa
open Go.RowKit
set_option linter.unusedVariables false
set_option linter.unusedSimpArgs false

def insS (l : List Sd) (s : Sd) (n : Nat) : List Sd := l.take n ++ [s] ++ l.drop n
theorem insS_len (l : List Sd) (s : Sd) (n : Nat) (hn : n ≤ l.length) : (insS l s n).length = l.length + 1 := by
  simp only [insS, List.length_append, List.length_take, List.length_drop, List.length_singleton]; omega
theorem insS_nth (l : List Sd) (s : Sd) (n j : Nat) (hn : n ≤ l.length) : nth (insS l s n) j = if j < n then nth l j else if j = n then s else nth l (j - 1) := by
  unfold nth insS
  simp only [List.getD_eq_getElem?_getD]
  have hl : (l.take n ++ [s]).length = n + 1 := by simp only [List.length_append, List.length_take, List.length_singleton]; omega
  by_cases h : j < n
  · rw [if_pos h, List.getElem?_append_left (by omega), List.getElem?_append_left (by rw [List.length_take]; omega), List.getElem?_take_of_lt h]
  · rw [if_neg h]
    by_cases e : j = n
    · subst e
      rw [if_pos rfl, List.getElem?_append_left (by omega), List.getElem?_append_right (by rw [List.length_take]; omega)]
      rw [List.length_take, show j - min j l.length = 0 by omega]
      rfl
    · rw [if_neg e, List.getElem?_append_right (by omega), List.getElem?_drop, hl, show n + (j - (n + 1)) = j - 1 by omega]
theorem insS_back (l : List Sd) (s : Sd) (n : Nat) (hn : n ≤ l.length) : (insS l s n).take n ++ (insS l s n).drop (n + 1) = l := by
  have hl : (l.take n ++ [s]).length = n + 1 := by simp only [List.length_append, List.length_take, List.length_singleton]; omega
  have h1 : (insS l s n).take n = l.take n := by
    unfold insS
    rw [List.append_assoc, List.take_append_of_le_length (by rw [List.length_take]; omega), List.take_take, Nat.min_self]
  have h2 : (insS l s n).drop (n + 1) = l.drop n := by
    unfold insS
    rw [List.drop_append_of_le_length (by omega), List.drop_eq_nil_of_le (by omega), List.nil_append]
  rw [h1, h2, List.take_append_drop]
theorem pos_before {l : List Sd} {s : Sd} {n : Nat} (h : PosE l s n) : ∀ j, j < n → (nth l j).f + (nth l j).p ≤ s.f := fun j hj => by
  have hf : hitsS s (nth l j) = false := by
    rcases h with ⟨h1, rfl⟩ | h1
    · rcases h1 with ⟨_, h2⟩ | ⟨i, h2, _⟩
      · exact h2 j hj
      · omega
    · rcases h1 with ⟨h2, _⟩ | ⟨i, h2, _, _, h3⟩
      · omega
      · exact h3 j (by omega)
  unfold hitsS at hf
  have := of_decide_eq_false hf
  omega
theorem insS_ok {l : List Sd} {s : Sd} {n : Nat} (h : OkL l) (h1 : Ok1 s) (hp : PosE l s n) (hc : ¬ Clash l s n) (h256 : l.length < 256) : OkL (insS l s n) := by
  have hn := hp.le
  have hb := pos_before hp
  refine ⟨by rw [insS_len _ _ _ hn]; omega, fun i hi => ?_, fun i hi => ?_⟩
  · rw [insS_len _ _ _ hn] at hi
    rw [insS_nth _ _ _ _ hn]
    split
    · exact h.2.1 i (by omega)
    · split
      · exact h1
      · exact h.2.1 (i - 1) (by omega)
  · rw [insS_len _ _ _ hn] at hi
    rw [insS_nth _ _ _ _ hn, insS_nth _ _ _ _ hn]
    by_cases e1 : i + 1 < n
    · rw [if_pos (by omega), if_pos e1]
      exact h.2.2 i (by omega)
    · by_cases e2 : i + 1 = n
      · rw [if_pos (by omega), if_neg (by omega), if_pos e2]
        exact hb i (by omega)
      · by_cases e3 : i = n
        · rw [if_neg (by omega), if_pos e3, if_neg (by omega), if_neg (by omega), show i + 1 - 1 = n by omega]
          have : ¬ (nth l n).f < s.f + s.p := fun hlt => hc ⟨by omega, hlt⟩
          omega
        · rw [if_neg (by omega), if_neg e3, if_neg (by omega), if_neg (by omega)]
          have := h.2.2 (i - 1) (by omega)
          rw [show i - 1 + 1 = i by omega] at this
          rw [show i + 1 - 1 = i by omega]
          exact this
theorem insS_find {l : List Sd} {s : Sd} {n : Nat} (h : OkL l) (hp : PosE l s n) : IdxE (insS l s n) (fun d => d.f == s.f) (n : Nat) := by
  have hn := hp.le
  have hb := pos_before hp
  refine .inr ⟨n, rfl, by rw [insS_len _ _ _ hn]; omega, ?_, fun j hj => ?_⟩
  · rw [insS_nth _ _ _ _ hn, if_neg (by omega), if_pos rfl]
    simp
  · rw [insS_nth _ _ _ _ hn, if_pos hj]
    have := hb j hj
    have := (h.2.1 j (by omega)).sized.slots
    simp
    omega
section
variable {w : World} {A As Ms : Option Addr} {l : List Sd} (cap ca cm : Nat)
set_option maxHeartbeats 4000000 in
theorem spanBack_walk (d : Sd) (w : World) (hr : SRow w w.heap.size A l) (hcl : l.length ≤ cap) (hl : l.length ≤ 1466015503658) (hnil : A = none → cap = 0) (hw : WordsLe l) (hA : Row w w.heap.size As d.aw) (hM : Row w w.heap.size Ms d.mw) :
    Calls Try.prog 7 #[.slice A l.length cap, spv d As ca Ms cm] w fun e w' => e = .returned (.bool true) ∧ Below w.heap.size w w' := by
  have hl2 : l.length ≤ 17592186044416 := by omega
  obtain ⟨r, y, hE⟩ := AddE.ex l d
  have HAD := Lib.hid fun (w : World) hr hA hM => sadd_any (w := w) (A := A) (As := As) (Ms := Ms) (l := l) cap ca cm hr hcl hl2 hnil d hA hM r y hE
  unfold FreshL5 at HAD
  have HSM := Lib.hid fun (w : World) (C : Option Addr) (cc : Nat) hr hq => xsameL_self (w := w) (A := A) (C := C) (l := l) cap cc hr hq hl2 hw
  rcases hE with ⟨h, rfl, rfl⟩ | ⟨h, h1, rfl, rfl⟩ | ⟨n, h, h1, hp, hh⟩
  · clear h
    obtain ⟨f, p, z, an, aw, mn, mw, s⟩ := d
    unfold spv at HAD ⊢
    simp only at *
    go_enter Try.func7, Try.ntmps7
    go_wp2_with fail
    go_at_call 17
    refine (slives_any _).mono ?_
    rintro e w1 ⟨rfl, hb_w1⟩
    obtain ⟨hc_w1, hf_w1⟩ := bcell hb_w1; have hz_w1_w_0 : w.heap.size < w1.heap.size := (by have hzz := hb_w1.size; (try simp only [World.size_alloc, World.size_setCell, World.size_drew, World.heap_drewN] at hzz); omega); have hs_w1 := hb_w1.size; (try simp only [World.size_alloc, World.size_setCell, World.size_drew, World.heap_drewN] at hs_w1)
    have b1 : Below w.heap.size w w1 := (by repeat (first | exact Below.refl _ _ | assumption | (refine below_drewN ?_ _) | (refine Below.drew ?_) | (refine Below.alloc ?_ (by first | omega | (simp; omega) | simp) _) | (refine Below.setCell ?_ (by first | omega | (simp; omega) | simp) _) | (refine below_trans ?_ (by assumption) (by first | omega | (simp; omega) | simp))))
    have q0 : w1.cell? ⟨w.heap.size, 0, none⟩ = some (.int .i64 f) := (hc_w1 _ _ (by first | omega | (simp; omega) | simp)).trans (by simp [go_sem])
    have q1 : w1.cell? ⟨w.heap.size, 1, none⟩ = some (.int .i64 p) := (hc_w1 _ _ (by first | omega | (simp; omega) | simp)).trans (by simp [go_sem])
    have q2 : w1.cell? ⟨w.heap.size, 2, none⟩ = some (.int .i64 z) := (hc_w1 _ _ (by first | omega | (simp; omega) | simp)).trans (by simp [go_sem])
    have q3 : w1.cell? ⟨w.heap.size, 3, none⟩ = some (.int .i64 an) := (hc_w1 _ _ (by first | omega | (simp; omega) | simp)).trans (by simp [go_sem])
    have q4 : w1.cell? ⟨w.heap.size, 4, none⟩ = some (.slice As aw.length ca) := (hc_w1 _ _ (by first | omega | (simp; omega) | simp)).trans (by simp [go_sem])
    have q5 : w1.cell? ⟨w.heap.size, 5, none⟩ = some (.int .i64 mn) := (hc_w1 _ _ (by first | omega | (simp; omega) | simp)).trans (by simp [go_sem])
    have q6 : w1.cell? ⟨w.heap.size, 6, none⟩ = some (.slice Ms mw.length cm) := (hc_w1 _ _ (by first | omega | (simp; omega) | simp)).trans (by simp [go_sem])
    have q7 : w1.cell? ⟨w.heap.size, 7, none⟩ = some (.bool s) := (hc_w1 _ _ (by first | omega | (simp; omega) | simp)).trans (by simp [go_sem])
    go_wp2_with fail
    go_at_call 26
    refine (HAD.out _ (hr.later b1) (hA.later b1) (hM.later b1)).mono ?_
    rintro e w2 ⟨A2, c2, vs, rfl, hs, o2, hb_w2⟩
    have hs2 := hb_w2.size
    have b2 : Below w.heap.size w w2 := b1.trans (hb_w2.mono (by omega))
    go_wp2
    go_ret
    exact ⟨rfl, b2⟩
  · clear h h1
    obtain ⟨f, p, z, an, aw, mn, mw, s⟩ := d
    unfold spv at HAD ⊢
    simp only at *
    go_enter Try.func7, Try.ntmps7
    go_wp2_with fail
    go_at_call 17
    refine (slives_any _).mono ?_
    rintro e w1 ⟨rfl, hb_w1⟩
    obtain ⟨hc_w1, hf_w1⟩ := bcell hb_w1; have hz_w1_w_0 : w.heap.size < w1.heap.size := (by have hzz := hb_w1.size; (try simp only [World.size_alloc, World.size_setCell, World.size_drew, World.heap_drewN] at hzz); omega); have hs_w1 := hb_w1.size; (try simp only [World.size_alloc, World.size_setCell, World.size_drew, World.heap_drewN] at hs_w1)
    have b1 : Below w.heap.size w w1 := (by repeat (first | exact Below.refl _ _ | assumption | (refine below_drewN ?_ _) | (refine Below.drew ?_) | (refine Below.alloc ?_ (by first | omega | (simp; omega) | simp) _) | (refine Below.setCell ?_ (by first | omega | (simp; omega) | simp) _) | (refine below_trans ?_ (by assumption) (by first | omega | (simp; omega) | simp))))
    have q0 : w1.cell? ⟨w.heap.size, 0, none⟩ = some (.int .i64 f) := (hc_w1 _ _ (by first | omega | (simp; omega) | simp)).trans (by simp [go_sem])
    have q1 : w1.cell? ⟨w.heap.size, 1, none⟩ = some (.int .i64 p) := (hc_w1 _ _ (by first | omega | (simp; omega) | simp)).trans (by simp [go_sem])
    have q2 : w1.cell? ⟨w.heap.size, 2, none⟩ = some (.int .i64 z) := (hc_w1 _ _ (by first | omega | (simp; omega) | simp)).trans (by simp [go_sem])
    have q3 : w1.cell? ⟨w.heap.size, 3, none⟩ = some (.int .i64 an) := (hc_w1 _ _ (by first | omega | (simp; omega) | simp)).trans (by simp [go_sem])
    have q4 : w1.cell? ⟨w.heap.size, 4, none⟩ = some (.slice As aw.length ca) := (hc_w1 _ _ (by first | omega | (simp; omega) | simp)).trans (by simp [go_sem])
    have q5 : w1.cell? ⟨w.heap.size, 5, none⟩ = some (.int .i64 mn) := (hc_w1 _ _ (by first | omega | (simp; omega) | simp)).trans (by simp [go_sem])
    have q6 : w1.cell? ⟨w.heap.size, 6, none⟩ = some (.slice Ms mw.length cm) := (hc_w1 _ _ (by first | omega | (simp; omega) | simp)).trans (by simp [go_sem])
    have q7 : w1.cell? ⟨w.heap.size, 7, none⟩ = some (.bool s) := (hc_w1 _ _ (by first | omega | (simp; omega) | simp)).trans (by simp [go_sem])
    go_wp2_with fail
    go_at_call 26
    refine (HAD.out _ (hr.later b1) (hA.later b1) (hM.later b1)).mono ?_
    rintro e w2 ⟨A2, c2, vs, rfl, hs, o2, hb_w2⟩
    have hs2 := hb_w2.size
    have b2 : Below w.heap.size w w2 := b1.trans (hb_w2.mono (by omega))
    go_wp2
    go_ret
    exact ⟨rfl, b2⟩
  · rcases hh with ⟨hc, rfl, rfl⟩ | ⟨hc, h256, rfl, rfl⟩ | ⟨hc, h256, hre, rfl⟩
    · clear h h1 hp hc
      obtain ⟨f, p, z, an, aw, mn, mw, s⟩ := d
      unfold spv at HAD ⊢
      simp only at *
      go_enter Try.func7, Try.ntmps7
      go_wp2_with fail
      go_at_call 17
      refine (slives_any _).mono ?_
      rintro e w1 ⟨rfl, hb_w1⟩
      obtain ⟨hc_w1, hf_w1⟩ := bcell hb_w1; have hz_w1_w_0 : w.heap.size < w1.heap.size := (by have hzz := hb_w1.size; (try simp only [World.size_alloc, World.size_setCell, World.size_drew, World.heap_drewN] at hzz); omega); have hs_w1 := hb_w1.size; (try simp only [World.size_alloc, World.size_setCell, World.size_drew, World.heap_drewN] at hs_w1)
      have b1 : Below w.heap.size w w1 := (by repeat (first | exact Below.refl _ _ | assumption | (refine below_drewN ?_ _) | (refine Below.drew ?_) | (refine Below.alloc ?_ (by first | omega | (simp; omega) | simp) _) | (refine Below.setCell ?_ (by first | omega | (simp; omega) | simp) _) | (refine below_trans ?_ (by assumption) (by first | omega | (simp; omega) | simp))))
      have q0 : w1.cell? ⟨w.heap.size, 0, none⟩ = some (.int .i64 f) := (hc_w1 _ _ (by first | omega | (simp; omega) | simp)).trans (by simp [go_sem])
      have q1 : w1.cell? ⟨w.heap.size, 1, none⟩ = some (.int .i64 p) := (hc_w1 _ _ (by first | omega | (simp; omega) | simp)).trans (by simp [go_sem])
      have q2 : w1.cell? ⟨w.heap.size, 2, none⟩ = some (.int .i64 z) := (hc_w1 _ _ (by first | omega | (simp; omega) | simp)).trans (by simp [go_sem])
      have q3 : w1.cell? ⟨w.heap.size, 3, none⟩ = some (.int .i64 an) := (hc_w1 _ _ (by first | omega | (simp; omega) | simp)).trans (by simp [go_sem])
      have q4 : w1.cell? ⟨w.heap.size, 4, none⟩ = some (.slice As aw.length ca) := (hc_w1 _ _ (by first | omega | (simp; omega) | simp)).trans (by simp [go_sem])
      have q5 : w1.cell? ⟨w.heap.size, 5, none⟩ = some (.int .i64 mn) := (hc_w1 _ _ (by first | omega | (simp; omega) | simp)).trans (by simp [go_sem])
      have q6 : w1.cell? ⟨w.heap.size, 6, none⟩ = some (.slice Ms mw.length cm) := (hc_w1 _ _ (by first | omega | (simp; omega) | simp)).trans (by simp [go_sem])
      have q7 : w1.cell? ⟨w.heap.size, 7, none⟩ = some (.bool s) := (hc_w1 _ _ (by first | omega | (simp; omega) | simp)).trans (by simp [go_sem])
      go_wp2_with fail
      go_at_call 26
      refine (HAD.out _ (hr.later b1) (hA.later b1) (hM.later b1)).mono ?_
      rintro e w2 ⟨A2, c2, vs, rfl, hs, o2, hb_w2⟩
      have hs2 := hb_w2.size
      have b2 : Below w.heap.size w w2 := b1.trans (hb_w2.mono (by omega))
      have s2 : SRow w2 w2.heap.size A2 r := by rw [← hs]; exact o2.srow
      go_wp2_with fail
      go_at_call 30
      refine (HSM.out _ _ _ (hr.later b2) s2).mono ?_
      rintro e w3 ⟨rfl, hb_w3⟩
      go_wp2
      go_ret
      exact ⟨rfl, b2.trans (hb_w3.mono (by omega))⟩
    · clear h h1 hp hc h256
      obtain ⟨f, p, z, an, aw, mn, mw, s⟩ := d
      unfold spv at HAD ⊢
      simp only at *
      go_enter Try.func7, Try.ntmps7
      go_wp2_with fail
      go_at_call 17
      refine (slives_any _).mono ?_
      rintro e w1 ⟨rfl, hb_w1⟩
      obtain ⟨hc_w1, hf_w1⟩ := bcell hb_w1; have hz_w1_w_0 : w.heap.size < w1.heap.size := (by have hzz := hb_w1.size; (try simp only [World.size_alloc, World.size_setCell, World.size_drew, World.heap_drewN] at hzz); omega); have hs_w1 := hb_w1.size; (try simp only [World.size_alloc, World.size_setCell, World.size_drew, World.heap_drewN] at hs_w1)
      have b1 : Below w.heap.size w w1 := (by repeat (first | exact Below.refl _ _ | assumption | (refine below_drewN ?_ _) | (refine Below.drew ?_) | (refine Below.alloc ?_ (by first | omega | (simp; omega) | simp) _) | (refine Below.setCell ?_ (by first | omega | (simp; omega) | simp) _) | (refine below_trans ?_ (by assumption) (by first | omega | (simp; omega) | simp))))
      have q0 : w1.cell? ⟨w.heap.size, 0, none⟩ = some (.int .i64 f) := (hc_w1 _ _ (by first | omega | (simp; omega) | simp)).trans (by simp [go_sem])
      have q1 : w1.cell? ⟨w.heap.size, 1, none⟩ = some (.int .i64 p) := (hc_w1 _ _ (by first | omega | (simp; omega) | simp)).trans (by simp [go_sem])
      have q2 : w1.cell? ⟨w.heap.size, 2, none⟩ = some (.int .i64 z) := (hc_w1 _ _ (by first | omega | (simp; omega) | simp)).trans (by simp [go_sem])
      have q3 : w1.cell? ⟨w.heap.size, 3, none⟩ = some (.int .i64 an) := (hc_w1 _ _ (by first | omega | (simp; omega) | simp)).trans (by simp [go_sem])
      have q4 : w1.cell? ⟨w.heap.size, 4, none⟩ = some (.slice As aw.length ca) := (hc_w1 _ _ (by first | omega | (simp; omega) | simp)).trans (by simp [go_sem])
      have q5 : w1.cell? ⟨w.heap.size, 5, none⟩ = some (.int .i64 mn) := (hc_w1 _ _ (by first | omega | (simp; omega) | simp)).trans (by simp [go_sem])
      have q6 : w1.cell? ⟨w.heap.size, 6, none⟩ = some (.slice Ms mw.length cm) := (hc_w1 _ _ (by first | omega | (simp; omega) | simp)).trans (by simp [go_sem])
      have q7 : w1.cell? ⟨w.heap.size, 7, none⟩ = some (.bool s) := (hc_w1 _ _ (by first | omega | (simp; omega) | simp)).trans (by simp [go_sem])
      go_wp2_with fail
      go_at_call 26
      refine (HAD.out _ (hr.later b1) (hA.later b1) (hM.later b1)).mono ?_
      rintro e w2 ⟨A2, c2, vs, rfl, hs, o2, hb_w2⟩
      have hs2 := hb_w2.size
      have b2 : Below w.heap.size w w2 := b1.trans (hb_w2.mono (by omega))
      have s2 : SRow w2 w2.heap.size A2 r := by rw [← hs]; exact o2.srow
      go_wp2_with fail
      go_at_call 30
      refine (HSM.out _ _ _ (hr.later b2) s2).mono ?_
      rintro e w3 ⟨rfl, hb_w3⟩
      go_wp2
      go_ret
      exact ⟨rfl, b2.trans (hb_w3.mono (by omega))⟩
    · have hok := insS_ok h h1 hp hc h256
      have hfd := insS_find h hp
      have hbk := insS_back l d n hp.le
      have hln := insS_len l d n hp.le
      have e : r = insS l d n := hre
      rw [← e] at hok hfd hbk hln
      have hrl2 : r.length ≤ 17592186044416 := by omega
      have HDR := Lib.hid fun (w : World) (A : Option Addr) (cap : Nat) hr hcl => sdrop_any (w := w) (A := A) (l := r) cap hr hcl hrl2 d.f l 0 (.inr (.inr ⟨n, hok, hfd, hbk.symm, rfl⟩))
      unfold FreshL5 at HDR
      have HCK := Lib.hid fun (w : World) (A : Option Addr) (cap : Nat) hr => scheck_any (w := w) (A := A) (l := r) cap hr hrl2 0 (.inl ⟨hok, rfl⟩)
      have u1 : IntKind.i64.wrap ((r.length : Int) - (l.length : Int)) = 1 := by rw [hln, IntWalk.i64_in _ (by omega)]; omega
      clear h h1 hp hc hok hfd hbk hre e
      have HLN := Lib.hid hln
      clear hln
      obtain ⟨f, p, z, an, aw, mn, mw, s⟩ := d
      unfold spv at HAD ⊢
      simp only at *
      go_enter Try.func7, Try.ntmps7
      go_wp2_with fail
      go_at_call 17
      refine (slives_any _).mono ?_
      rintro e w1 ⟨rfl, hb_w1⟩
      obtain ⟨hc_w1, hf_w1⟩ := bcell hb_w1; have hz_w1_w_0 : w.heap.size < w1.heap.size := (by have hzz := hb_w1.size; (try simp only [World.size_alloc, World.size_setCell, World.size_drew, World.heap_drewN] at hzz); omega); have hs_w1 := hb_w1.size; (try simp only [World.size_alloc, World.size_setCell, World.size_drew, World.heap_drewN] at hs_w1)
      have b1 : Below w.heap.size w w1 := (by repeat (first | exact Below.refl _ _ | assumption | (refine below_drewN ?_ _) | (refine Below.drew ?_) | (refine Below.alloc ?_ (by first | omega | (simp; omega) | simp) _) | (refine Below.setCell ?_ (by first | omega | (simp; omega) | simp) _) | (refine below_trans ?_ (by assumption) (by first | omega | (simp; omega) | simp))))
      have q0 : w1.cell? ⟨w.heap.size, 0, none⟩ = some (.int .i64 f) := (hc_w1 _ _ (by first | omega | (simp; omega) | simp)).trans (by simp [go_sem])
      have q1 : w1.cell? ⟨w.heap.size, 1, none⟩ = some (.int .i64 p) := (hc_w1 _ _ (by first | omega | (simp; omega) | simp)).trans (by simp [go_sem])
      have q2 : w1.cell? ⟨w.heap.size, 2, none⟩ = some (.int .i64 z) := (hc_w1 _ _ (by first | omega | (simp; omega) | simp)).trans (by simp [go_sem])
      have q3 : w1.cell? ⟨w.heap.size, 3, none⟩ = some (.int .i64 an) := (hc_w1 _ _ (by first | omega | (simp; omega) | simp)).trans (by simp [go_sem])
      have q4 : w1.cell? ⟨w.heap.size, 4, none⟩ = some (.slice As aw.length ca) := (hc_w1 _ _ (by first | omega | (simp; omega) | simp)).trans (by simp [go_sem])
      have q5 : w1.cell? ⟨w.heap.size, 5, none⟩ = some (.int .i64 mn) := (hc_w1 _ _ (by first | omega | (simp; omega) | simp)).trans (by simp [go_sem])
      have q6 : w1.cell? ⟨w.heap.size, 6, none⟩ = some (.slice Ms mw.length cm) := (hc_w1 _ _ (by first | omega | (simp; omega) | simp)).trans (by simp [go_sem])
      have q7 : w1.cell? ⟨w.heap.size, 7, none⟩ = some (.bool s) := (hc_w1 _ _ (by first | omega | (simp; omega) | simp)).trans (by simp [go_sem])
      go_wp2_with fail
      go_at_call 26
      refine (HAD.out _ (hr.later b1) (hA.later b1) (hM.later b1)).mono ?_
      rintro e w2 ⟨A2, c2, vs, rfl, hs, o2, hb_w2⟩
      have hs2 := hb_w2.size
      have b2 : Below w.heap.size w w2 := b1.trans (hb_w2.mono (by omega))
      have k2 := o2.cap_
      have s2 : SRow w2 w2.heap.size A2 r := by rw [← hs]; exact o2.srow
      have p0 : w2.cell? ⟨w.heap.size, 0, none⟩ = some (.int .i64 f) := (hb_w2.cell (p := ⟨w.heap.size, 0, none⟩) (by first | omega | (simp; omega) | simp)).trans q0
      clear q0 q1 q2 q3 q4 q5 q6 q7
      go_wp2_with fail
      go_at_call 28
      refine (HDR.out _ _ _ s2 k2).mono ?_
      rintro e w3 ⟨A3, c3, us, rfl, hs', o3, hb_w3⟩
      have hs3 := hb_w3.size
      have b3 : Below w.heap.size w w3 := b2.trans (hb_w3.mono (by omega))
      have s3 : SRow w3 w3.heap.size A3 l := by rw [← hs']; exact o3.srow
      go_wp2_with fail
      go_at_call 19
      refine (HCK.out _ _ _ (s2.later hb_w3)).mono ?_
      rintro e w4 ⟨rfl, hb_w4⟩
      have hs4 := hb_w4.size
      have b4 : Below w.heap.size w w4 := b3.trans (hb_w4.mono (by omega))
      go_wp2_with fail
      go_at_call 30
      refine (HSM.out _ _ _ (hr.later b4) (s3.later hb_w4)).mono ?_
      rintro e w5 ⟨rfl, hb_w5⟩
      go_wp2
      go_ret
      exact ⟨rfl, b4.trans (hb_w5.mono (by omega))⟩
end
end Go.Proofs.Ythphefoohkofbaa
