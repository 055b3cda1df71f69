/- Words of a call's own; whether a table is right; copies; whether two are one. -/
import Derived.Test.YtkdbcoibapcmjaaW2
import Derived.Lib.SliceRun
namespace Go.Proofs.Ytkdbcoibapcmjaa
open Go.RowKit
set_option linter.unusedVariables false
set_option linter.unusedSimpArgs false

/-- words of a call's own, in a block from B on -/
structure OwnsN (w : World) (B : Nat) (A : Option Addr) (n cap : Nat) (t : List Nat) : Prop where
  len : t.length = n
  words : Words t
  row_ : w.ownsRow B 22 1 (.slice A n cap) n (vals t)
theorem owns_laterN {w w' : World} {B s n : Nat} {e : TypeId} {v : Value} {xs : List Value} (h : w.ownsRow B e s v n xs) (hb : Below w.heap.size w w') : w'.ownsRow B e s v n xs := by
  refine World.ownsRow.kept (row := none) h ⟨hb.os, hb.tape, hb.output, hb.size, fun k hk _ => hb.block k hk⟩ ?_
  cases hv : v.ownBlock
  · exact .inl rfl
  · exact .inr (by simp)
theorem owns_monoN {w : World} {B B' s n : Nat} {e : TypeId} {v : Value} {xs : List Value} (h : w.ownsRow B e s v n xs) (hB : B' ≤ B) : w.ownsRow B' e s v n xs := by
  obtain ⟨h0, h1 | ⟨g, c, cur, h1, h2, h3⟩⟩ := h
  · exact ⟨h0, .inl h1⟩
  · exact ⟨h0, .inr ⟨g, c, cur, h1, Nat.le_trans hB h2, h3⟩⟩
theorem owns_cap {w : World} {B t s n cap : Nat} {A : Option Addr} {xs : List Value} (h : w.ownsRow B t s (.slice A n cap) n xs) : n ≤ cap ∧ (A = none → cap = 0) := by
  obtain ⟨_, ⟨h1, h2⟩ | ⟨g, cap', cur, e, _, _, hc, hm, _, _⟩⟩ := id h
  · injection h1 with h1 h3 h4
    exact ⟨by omega, fun _ => h4⟩
  · injection e with e1 e2 e3
    subst e3
    exact ⟨by omega, fun hn => by rw [hn] at e1; cases e1⟩
theorem OwnsN.cap_ {w : World} {B n cap : Nat} {A : Option Addr} {t : List Nat} (h : OwnsN w B A n cap t) : n ≤ cap := (owns_cap h.row_).1
theorem OwnsN.nil_ {w : World} {B n cap : Nat} {A : Option Addr} {t : List Nat} (h : OwnsN w B A n cap t) : A = none → cap = 0 := (owns_cap h.row_).2
theorem OwnsN.later {w w' : World} {B n cap : Nat} {A : Option Addr} {t : List Nat} (h : OwnsN w B A n cap t) (hb : Below w.heap.size w w') : OwnsN w' B A n cap t := ⟨h.len, h.words, owns_laterN h.row_ hb⟩
theorem OwnsN.mono {w : World} {B B' n cap : Nat} {A : Option Addr} {t : List Nat} (h : OwnsN w B A n cap t) (hB : B' ≤ B) : OwnsN w B' A n cap t := ⟨h.len, h.words, owns_monoN h.row_ hB⟩
theorem OwnsN.own {w : World} {B n cap : Nat} {A : Option Addr} {t : List Nat} (h : OwnsN w B A n cap t) : Own w B A t :=
  ⟨h.words, fun hl => by
    have hn := h.len
    have hr := h.row_
    obtain ⟨_, ⟨h1, h2⟩ | ⟨g, cap', cur, e, _⟩⟩ := id hr
    · omega
    · injection e with e1 e2 e3
      subst e1
      obtain ⟨l1, l2⟩ := hr.lt g rfl
      refine ⟨g, rfl, l1, l2, fun i hi => ⟨?_, hr.frozenAt i⟩⟩
      rw [hr.cellAt i (by omega), vals_at t i hi]⟩
theorem OwnsN.row {w : World} {B n cap : Nat} {A : Option Addr} {t : List Nat} (h : OwnsN w B A n cap t) : Row w w.heap.size A t := h.own.row
theorem OwnsN.nil (w : World) (B : Nat) : OwnsN w B none 0 0 [] := ⟨rfl, fun x hx => by simp at hx, World.ownsRow_nil _ _ _ _⟩
theorem own_emptyN (w w' : World) (B : Nat) (hB : B ≤ w.heap.size) (h : w'.heap = (w.alloc (.cells #[] 22)).heap) : w'.ownsRow B 22 1 (.slice (some ⟨w.heap.size, 0, none⟩) 0 0) 0 [] :=
  ⟨rfl, .inr ⟨w.heap.size, 0, #[], rfl, hB, by rw [h]; exact heap_alloc_new _ _, Nat.le_refl _, Nat.zero_le _, rfl, rfl⟩⟩
/-- a copy of words -/
def CopiedN (w : World) (t : List Nat) (e : Ending) (w' : World) : Prop := ∃ A cap, e = .returned (.slice A t.length cap) ∧ OwnsN w' w.heap.size A t.length cap t ∧ Below w.heap.size w w'
section
variable {w : World} {A : Option Addr} {t : List Nat} (cap : Nat)
theorem wclone_any (hr : Row w w.heap.size A t) (hl : t.length ≤ 17592186044416) (hn : A = none → cap = 0) : Calls Try.prog 44 #[.slice A t.length cap] w fun e w' => CopiedN w t e w' := by
  unfold CopiedN
  have q22 : ∀ (w : World) (a : Option Addr) (n c n' c' : Nat), (binOp .eql 23 (.slice a n c) (.slice none n' c')).run Try.prog w = .ok (.bool a.isNone) w := fun w a n c n' c' => Lib.run_eql_slice_nil w _ _ a n c n' c' Try.underlying23
  obtain ⟨i0, hi, hz0, hz1, hz2⟩ := info_parts info_u64
  by_cases h0 : 0 < t.length
  · obtain ⟨b, off, rfl, hbb, hc⟩ := hr.at_ h0
    have hsrc := fun j v hv => hr.src2 (Below.refl _ _) (b := b) (off := off) j v hv
    have hlt : b < w.heap.size := hbb
    go_enter Try.func44, Try.ntmps44
    go_wp2_with (at_builtin; refine wpList_append_lies _ ?_ (.tmp 5) (.tmp 6) 23 ?_ w.heap.size 22 i0 _ 1 8 Try.underlying23 hi hz0 hz1 hz2 rfl (by omega) (.slice (some ⟨w.heap.size, 0, none⟩) 0 0) 0 [] ?_ (own_emptyN w _ _ (Nat.le_refl _) rfl) ⟨b, off, none⟩ t.length cap (vals t) ?_ (by rw [length_vals, Nat.mul_one]) ?_ (vals_one t) h0 (by unfold maxLen; omega) (by omega) (by simp) _ rfl ?_; rfl; rfl; rfl; rfl; (exact fun j u hj => by rw [add_form]; exact (World.cell?_alloc_lt _ _ ⟨_, _, _⟩ hlt).trans (by have := hsrc j u hj; rwa [add_form] at this)); intro g cap2 w2 hown2 hg2 hat2 hlt2; simp only [Nat.zero_add, List.nil_append] at hown2; have hb_w2 : Below w.heap.size _ w2 := (Below.refl _ _).grown hg2 (by first | omega | (simp; omega) | simp) (fun k hk => (by simp [Value.ownBlock] at hk; omega)))
    go_ret
    exact ⟨_, cap2, rfl, ⟨rfl, hr.words, hown2⟩, (by repeat (first | exact Below.refl _ _ | assumption | (refine below_drewN ?_ _) | (refine Below.drew ?_) | (refine Below.alloc ?_ (by first | omega | (simp; omega) | simp) _) | (refine Below.setCell ?_ (by first | omega | (simp; omega) | simp) _) | (refine below_trans ?_ (by assumption) (by first | omega | (simp; omega) | simp))))⟩
  · obtain rfl : t = [] := List.eq_nil_of_length_eq_zero (by omega)
    cases A with
    | none =>
      obtain rfl := hn rfl
      simp only [List.length_nil]
      go_enter Try.func44, Try.ntmps44
      go_wp2
      go_ret
      exact ⟨none, 0, rfl, OwnsN.nil _ _, (by repeat (first | exact Below.refl _ _ | assumption | (refine below_drewN ?_ _) | (refine Below.drew ?_) | (refine Below.alloc ?_ (by first | omega | (simp; omega) | simp) _) | (refine Below.setCell ?_ (by first | omega | (simp; omega) | simp) _) | (refine below_trans ?_ (by assumption) (by first | omega | (simp; omega) | simp))))⟩
    | some a =>
      have ho := own_emptyN w (w.alloc (.cells #[] 22)) w.heap.size (Nat.le_refl _) rfl
      simp only [List.length_nil]
      go_enter Try.func44, Try.ntmps44
      go_wp2
      go_ret
      exact ⟨_, 0, rfl, ⟨rfl, hr.words, ho⟩, (by repeat (first | exact Below.refl _ _ | assumption | (refine below_drewN ?_ _) | (refine Below.drew ?_) | (refine Below.alloc ?_ (by first | omega | (simp; omega) | simp) _) | (refine Below.setCell ?_ (by first | omega | (simp; omega) | simp) _) | (refine below_trans ?_ (by assumption) (by first | omega | (simp; omega) | simp))))⟩
end
section
variable {w : World} {A C : Option Addr} {t u : List Nat} (cap cc : Nat)
theorem xsameN_any (hr : Row w w.heap.size A t) (hq : Row w w.heap.size C u) (hl : t.length ≤ 17592186044416) (hm : u.length ≤ 17592186044416) (r : Bool) (hR : r = true ↔ t = u) :
    Calls Try.prog 32 #[.slice A t.length cap, .slice C u.length cc] w fun e w' => e = .returned (.bool r) ∧ Below w.heap.size w w' := by
  have HR := Lib.hid hR
  clear hR
  by_cases hll : t.length = u.length
  · have f0 : ((t.length : Int) != (u.length : Int)) = false := by simp [hll]
    have HLL := Lib.hid hll
    generalize hL : u.length = L at *
    go_enter Try.func32, Try.ntmps32
    go_wp2_with fail
    go_loopw [13] (fun kk wr => ∃ k : Nat, kk = .int .i64 (k : Nat) ∧ k ≤ t.length ∧ Hid (∀ i, i < k → t.getD i 0 = u.getD i 0) ∧ w.heap.size ≤ wr.heap.size ∧ Below w.heap.size w wr) (fun kk _ => t.length - (intOf kk).toNat)
    case atStart => exact ⟨0, rfl, by omega, Lib.hid (fun j hj => by omega), (by first | omega | (simp; omega) | simp), (by repeat (first | exact Below.refl _ _ | assumption | (refine below_drewN ?_ _) | (refine Below.drew ?_) | (refine Below.alloc ?_ (by first | omega | (simp; omega) | simp) _) | (refine Below.setCell ?_ (by first | omega | (simp; omega) | simp) _) | (refine below_trans ?_ (by assumption) (by first | omega | (simp; omega) | simp))))⟩
    case round =>
      obtain ⟨k, rfl, hk, hB, hsz, hb_wr⟩ := hrel
      have hsr := hb_wr.size
      by_cases hlt : k < t.length
      · obtain ⟨b, off, rfl, hbb, hc⟩ := (hr.later hb_wr).cellAt (k := k) hlt
        obtain ⟨b2, off2, rfl, hbb2, hc2⟩ := (hq.later hb_wr).cellAt (k := k) (by omega)
        have i1 : (k : Int) < (t.length : Int) := by omega
        have i2 : (0 : Int) ≤ (k : Int) := by omega
        have i3 : (k : Int) < (L : Int) := by omega
        obtain ⟨x, hx⟩ : ∃ x, Hid (t.getD k 0 = x) := ⟨_, rfl⟩
        obtain ⟨z, hz⟩ : ∃ z, Hid (u.getD k 0 = z) := ⟨_, rfl⟩
        rw [hx.out] at hc
        rw [hz.out] at hc2
        by_cases he : x = z
        · have f1 : ((x : Int) != (z : Int)) = false := by simp [he]
          have hB2 : Hid (∀ i, i < k + 1 → t.getD i 0 = u.getD i 0) := Lib.hid (fun i hi => by
            by_cases e : i = k
            · subst e; rw [hx.out, hz.out, he]
            · exact hB.out i (by omega))
          clear he
          go_wp2_with fail
          go_quiet (fail)
          go_wp2
          go_roundw
          case rel => exact ⟨k + 1, by go_num, by omega, hB2, (by first | omega | (simp; omega) | simp), (by repeat (first | exact Below.refl _ _ | assumption | (refine below_drewN ?_ _) | (refine Below.drew ?_) | (refine Below.alloc ?_ (by first | omega | (simp; omega) | simp) _) | (refine Below.setCell ?_ (by first | omega | (simp; omega) | simp) _) | (refine below_trans ?_ (by assumption) (by first | omega | (simp; omega) | simp))))⟩
          case measure => simp [intOf]; omega
        · have f1 : ((x : Int) != (z : Int)) = true := by simp; omega
          have e1 : r = false := by
            cases hr0 : r
            · rfl
            · exact absurd (by rw [← hx.out, ← hz.out, HR.out.1 hr0]) he
          have E1 := Lib.hid e1
          clear he e1
          go_wp2_with fail
          go_quiet (fail)
          go_wp2
          go_ret
          exact ⟨by rw [E1.out]; rfl, (by repeat (first | exact Below.refl _ _ | assumption | (refine below_drewN ?_ _) | (refine Below.drew ?_) | (refine Below.alloc ?_ (by first | omega | (simp; omega) | simp) _) | (refine Below.setCell ?_ (by first | omega | (simp; omega) | simp) _) | (refine below_trans ?_ (by assumption) (by first | omega | (simp; omega) | simp))))⟩
      · have e1 : r = true := HR.out.2 (list_ext0 (by rw [HLL.out, hL]) (fun i hi => hB.out i (by omega)))
        have E1 := Lib.hid e1
        clear e1
        go_wp2
        go_ret
        exact ⟨by rw [E1.out]; rfl, (by repeat (first | exact Below.refl _ _ | assumption | (refine below_drewN ?_ _) | (refine Below.drew ?_) | (refine Below.alloc ?_ (by first | omega | (simp; omega) | simp) _) | (refine Below.setCell ?_ (by first | omega | (simp; omega) | simp) _) | (refine below_trans ?_ (by assumption) (by first | omega | (simp; omega) | simp))))⟩
  · have f0 : ((t.length : Int) != (u.length : Int)) = true := by simp; omega
    obtain rfl : r = false := by
      cases hr0 : r
      · rfl
      · exact absurd (by rw [HR.out.1 hr0]) hll
    clear hll
    go_enter Try.func32, Try.ntmps32
    go_wp2
    go_ret
    exact ⟨rfl, (by repeat (first | exact Below.refl _ _ | assumption | (refine below_drewN ?_ _) | (refine Below.drew ?_) | (refine Below.alloc ?_ (by first | omega | (simp; omega) | simp) _) | (refine Below.setCell ?_ (by first | omega | (simp; omega) | simp) _) | (refine below_trans ?_ (by assumption) (by first | omega | (simp; omega) | simp))))⟩
end
end Go.Proofs.Ytkdbcoibapcmjaa
