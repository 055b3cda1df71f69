/- Contracts of package asm: tell. -/
import Derived.Test.YtggaijdbaplfiaaGreatDoorAs17
namespace Go.Proofs.YtggaijdbaplfiaaGreatDoor
open Go.RowKit
set_option linter.unusedVariables false
set_option linter.unusedSimpArgs false
/-- a command that lies in block g: its instruction, where it goes, its line -/
structure Cm13 (w : World) (g : Nat) (x : In) (gl : List UInt8) (ln : Int) : Prop where
  i : In11 w g 0 x
  c11 : w.cell? ⟨g, 11, none⟩ = some (.string (bs gl))
  c12 : w.cell? ⟨g, 12, none⟩ = some (.int .i64 ln)
theorem Cm13.lt {w : World} {g : Nat} {x : In} {gl : List UInt8} {ln : Int} (h : Cm13 w g x gl ln) : g < w.heap.size := h.i.lt
theorem Cm13.later {w w' : World} {g : Nat} {x : In} {gl : List UInt8} {ln : Int} (h : Cm13 w g x gl ln) (hb : Below w.heap.size w w') : Cm13 w' g x gl ln :=
  ⟨h.i.later hb, ((bcell hb).1 _ _ h.lt).trans h.c11, ((bcell hb).1 _ _ h.lt).trans h.c12⟩
theorem Cm13.put {W : World} {g : Nat} {s : In} {gl : List UInt8} {ln : Int} (h : Cm13 W g s gl ln) (o : Nat) (ho1 : 1 ≤ o) (ho9 : o ≤ 9) (v : Int) (hv : 0 ≤ v) : Cm13 (W.setCell ⟨g, jO o, none⟩ (vO o v)) g (putO o v s) gl ln := by
  have h11 : ¬ jO o = 11 := by unfold jO; omega
  have h12 : ¬ jO o = 12 := by unfold jO; omega
  have h13 : ¬ 11 = jO o := by unfold jO; omega
  have h14 : ¬ 12 = jO o := by unfold jO; omega
  exact ⟨h.i.put o ho1 ho9 v hv, by rw [← h.c11]; simp [go_sem, h11, h13], by rw [← h.c12]; simp [go_sem, h12, h14]⟩
theorem Cm13.goal {W : World} {g : Nat} {s : In} {gl : List UInt8} {ln : Int} (h : Cm13 W g s gl ln) (l : List UInt8) (b : ByteArray) (hb : b = bs l) : Cm13 (W.setCell ⟨g, 11, none⟩ (.string b)) g s l ln := by
  subst hb
  obtain ⟨⟨c0, c1, c2, c3, c4, c5, c6, c7, c8, c9, c10⟩, h11, h12⟩ := h
  simp only [Nat.zero_add] at c0 c1 c2 c3 c4 c5 c6 c7 c8 c9 c10
  refine ⟨⟨?_, ?_, ?_, ?_, ?_, ?_, ?_, ?_, ?_, ?_, ?_⟩, ?_, ?_⟩ <;> simp [go_sem, c0, c1, c2, c3, c4, c5, c6, c7, c8, c9, c10, h11, h12]
theorem below_at (g j : Nat) (W : World) (v : Value) : Below g W (W.setCell ⟨g, j, none⟩ v) := (Below.refl g W).setCell (p := ⟨g, j, none⟩) (Nat.le_refl g) v
theorem most0 (o : Nat) (h9 : o ≠ 9) (h56 : ¬ (o = 5 ∨ o = 6)) : mostO o 0 ≤ 48 := by
  unfold mostO
  split <;> omega
def TellR (w : World) (g o : Nat) (s : List UInt8) (x : In) (gl : List UInt8) (ln : Int) (e : Ending) (w' : World) : Prop :=
  match tellO o s (x, gl) with
  | none => e = .returned (.bool false) ∧ Below g w w'
  | some c => e = .returned (.bool true) ∧ Cm13 w' g c.1 c.2 ln ∧ (∀ j, w'.frozen? ⟨g, j, none⟩ = false) ∧ Below g w w'
theorem tellR_none {w w' : World} {g o : Nat} {s : List UInt8} {x : In} {gl : List UInt8} {ln : Int} (h : tellO o s (x, gl) = none) (hb : Below g w w') : TellR w g o s x gl ln (.returned (.bool false)) w' := by
  unfold TellR
  rw [h]
  exact ⟨rfl, hb⟩
theorem tellR_some {w w' : World} {g o : Nat} {s : List UInt8} {x : In} {gl : List UInt8} {ln : Int} {c : In × List UInt8} (h : tellO o s (x, gl) = some c) (hc : Cm13 w' g c.1 c.2 ln) (hf : ∀ j, w'.frozen? ⟨g, j, none⟩ = false) (hb : Below g w w') : TellR w g o s x gl ln (.returned (.bool true)) w' := by
  unfold TellR
  rw [h]
  exact ⟨rfl, hc, hf, hb⟩
theorem trim_len (s : List UInt8) : (Lib.trimPrefix s [114]).length ≤ s.length := by
  unfold Lib.trimPrefix
  split <;> simp
section
variable {w : World}
theorem cutP_any (s : ByteArray) : Calls Tryz.prog 88 #[.string s, .string ⟨#[114]⟩] w fun e w' => e = .returned (.tuple #[.string (bs (Lib.trimPrefix s.data.toList [114])), .bool (Lib.hasPrefix s.data.toList [114])]) ∧ w' = w := L_strings_CutPrefix s ⟨#[114]⟩ w
theorem numO_any (d : List UInt8) (hs : d.length ≤ 65536) (hL : Lw w) : Calls Tryz.prog 89 #[.string (bs d)] w fun e w' => e = .returned (.tuple #[.int .u64 ((numE d).getD 0 : Nat), .bool (numE d).isSome]) ∧ Below w.heap.size w w' := by
  have := numberOf_any (w := w) (bs d) (by rw [bs_size]; exact hs) hL
  unfold NumR at this
  rw [bs_data] at this
  exact this
set_option maxRecDepth 100000 in
set_option maxHeartbeats 8000000 in
theorem tell_any (o : Nat) (ho1 : 1 ≤ o) (ho9 : o ≤ 9) (s : ByteArray) (hs : s.size ≤ 65536) (g : Nat) (x : In) (gl : List UInt8) (ln : Int) (hc : Cm13 w g x gl ln) (hf : ∀ j, w.frozen? ⟨g, j, none⟩ = false) (hL : Lw w) :
    Calls Tryz.prog 70 #[.pointer (some ⟨g, 0, none⟩), .int .i64 (o : Nat), .string s] w fun e w' => TellR w g o s.data.toList x gl ln e w' := by
  have hgw := hc.lt
  have HC := Lib.hid hc
  have HF := Lib.hid hf
  by_cases h9 : o = 9
  · subst h9
    have hto : tellO 9 s.data.toList (x, gl) = if isLab s.data.toList then some (x, s.data.toList) else none := rfl
    have z11 := hf 11
    have c11 := hc.c11
    have HG : Hid (Cm13 (w.setCell ⟨g, 11, none⟩ (.string s)) g x s.data.toList ln) := Lib.hid (hc.goal _ _ (bs_of s).symm)
    have HZ : Hid (∀ j, (w.setCell ⟨g, 11, none⟩ (.string s)).frozen? ⟨g, j, none⟩ = false) := Lib.hid (fz_put hf _ _)
    have HI := Lib.hid fun (W : World) => isLabel_any (w := W) s
    have HTO := Lib.hid hto
    clear hto hc hf
    go_enter Tryz.func70, Tryz.ntmps70
    go_wp2_with fail
    go_at_call 38
    refine (HI.out _).mono ?_
    rintro e w2 ⟨rfl, hw2⟩
    have HW2 := Lib.hid hw2
    clear hw2
    go_wp2
    go_ret
    rw [HW2.out]
    cases hq : isLab s.data.toList with
    | true => exact tellR_some (by rw [HTO.out, if_pos hq]) HG.out HZ.out (below_at _ _ _ _)
    | false => exact tellR_none (by rw [HTO.out, if_neg (by rw [hq]; simp)]) (below_at _ _ _ _)
  · have e9 : ((o : Int) == 9) = false := by simp; omega
    have HI := Lib.hid fun (W : World) => isReg_any (w := W) o ho9
    have HMO := Lib.hid fun (W : World) => most_any (w := W) o ho1 ho9 0 (by omega) (by omega)
    have hto : tellO o s.data.toList (x, gl) = if isR o && !Lib.hasPrefix s.data.toList [114] then none else match numE (if isR o then Lib.trimPrefix s.data.toList [114] else s.data.toList) with
      | none => none
      | some u => if (u : Int) ≤ mostO o 0 then some (putO o u x, gl) else none := by
      unfold tellO
      rw [if_neg h9]
      rfl
    -- the part behind the word's digits
    have hm56 : (o = 5 ∨ o = 6) ∨ mostO o 0 ≤ 48 := by
      by_cases h56 : o = 5 ∨ o = 6
      · exact .inl h56
      · exact .inr (most0 o h9 h56)
    have hcp : Hid (∀ (W : World) (u : Nat), u ≤ mostO o 0 → Cm13 W g x gl ln → (∀ j, W.frozen? ⟨g, j, none⟩ = false) → Calls Tryz.prog 55 #[.int .i64 (o : Nat), .pointer (some ⟨g, 0, none⟩), .int .u64 (u : Nat)] W fun e w' => e = .returned (.tuple #[]) ∧ (Cm13 w' g (putO o u x) gl ln ∧ (∀ j, w'.frozen? ⟨g, j, none⟩ = false)) ∧ Below g W w') := Lib.hid fun W u hu hC hF => by
      refine (put_any (w := W) o ho1 ho9 (u : Int) (by omega) (by rcases hm56 with h | h; exact .inl h; exact .inr (by omega)) g x hC.i hF).mono ?_
      rintro e w' ⟨rfl, rfl⟩
      exact ⟨rfl, ⟨hC.put o ho1 ho9 _ (by omega), fz_put hF _ _⟩, below_at _ _ _ _⟩
    cases hr : isR o with
    | true =>
      rw [hr] at hto
      simp only [Bool.true_and, if_true] at hto
      have HCU := Lib.hid fun (W : World) => cutP_any (w := W) s
      cases hp : Lib.hasPrefix s.data.toList [114] with
      | false =>
        rw [hp] at hto HCU
        have HTO : Hid (tellO o s.data.toList (x, gl) = none) := Lib.hid (by rw [hto]; rfl)
        rw [hr] at HI
        clear hto hc hf hp hr
        go_enter Tryz.func70, Tryz.ntmps70
        go_wp2_with fail
        go_at_call 79
        refine (HI.out _).mono ?_
        rintro e w0 ⟨rfl, rfl⟩
        go_wp2_with fail
        go_at_call 88
        refine (HCU.out _).mono ?_
        rintro e w0 ⟨rfl, rfl⟩
        go_wp2
        go_ret
        exact tellR_none HTO.out (Below.refl _ _)
      | true =>
        rw [hp] at hto HCU
        simp only [Bool.not_true, Bool.false_eq_true, if_false] at hto
        have htl := trim_len s.data.toList
        have hlen : s.data.toList.length = s.size := Array.length_toList
        have HN := Lib.hid fun (W : World) hL => numO_any (w := W) (Lib.trimPrefix s.data.toList [114]) (by omega) hL
        rw [hr] at HI
        have HTO0 := Lib.hid hto
        clear hto hc hf hp hr htl hlen
        generalize Lib.trimPrefix s.data.toList [114] = dg at *
        cases hq : numE dg with
        | none =>
          have hto := HTO0.out
          rw [hq] at hto HN
          simp only [Option.getD_none, Option.isSome_none] at HN
          have HTO := Lib.hid hto
          clear hto hq HTO0
          go_enter Tryz.func70, Tryz.ntmps70
          go_wp2_with fail
          go_at_call 79
          refine (HI.out _).mono ?_
          rintro e w0 ⟨rfl, rfl⟩
          go_wp2_with fail
          go_at_call 88
          refine (HCU.out _).mono ?_
          rintro e w0 ⟨rfl, rfl⟩
          go_wp2_with fail
          go_at_call 89
          refine (HN.out _ hL).mono ?_
          rintro e w1 ⟨rfl, hb_w1⟩
          have hs1 := hb_w1.size
          go_wp2
          go_ret
          exact tellR_none HTO.out (hb_w1.mono (Nat.le_of_lt hgw))
        | some u =>
          have hto := HTO0.out
          rw [hq] at hto HN
          simp only [Option.getD_some, Option.isSome_some] at HN hto
          by_cases hu : (u : Int) ≤ mostO o 0
          · rw [if_pos hu] at hto
            have e1 : decide (mostO o 0 < (u : Int)) = false := decide_eq_false (by omega)
            have HP := Lib.hid fun (W : World) hC hF => hcp.out W u hu hC hF
            have HTO := Lib.hid hto
            clear hto hq HTO0 hu hcp
            go_enter Tryz.func70, Tryz.ntmps70
            go_wp2_with fail
            go_at_call 79
            refine (HI.out _).mono ?_
            rintro e w0 ⟨rfl, rfl⟩
            go_wp2_with fail
            go_at_call 88
            refine (HCU.out _).mono ?_
            rintro e w0 ⟨rfl, rfl⟩
            go_wp2_with fail
            go_at_call 89
            refine (HN.out _ hL).mono ?_
            rintro e w1 ⟨rfl, hb_w1⟩
            have hs1 := hb_w1.size
            go_wp2_with fail
            go_at_call 54
            refine (HMO.out _).mono ?_
            rintro e w2 ⟨rfl, rfl⟩
            go_wp2_with fail
            go_at_call 55
            refine (HP.out _ (HC.out.later hb_w1) (fz_later HF.out hb_w1 hgw)).mono ?_
            rintro e w3 ⟨rfl, ⟨hC3, hF3⟩, hb_w3⟩
            have HC3 := Lib.hid hC3
            have HF3 := Lib.hid hF3
            have HB3 := Lib.hid ((hb_w1.mono (Nat.le_of_lt hgw)).trans hb_w3)
            clear hC3 hF3 hb_w3
            go_wp2
            go_ret
            exact tellR_some HTO.out HC3.out HF3.out HB3.out
          · rw [if_neg hu] at hto
            have e1 : decide (mostO o 0 < (u : Int)) = true := decide_eq_true (by omega)
            have HTO := Lib.hid hto
            clear hto hq HTO0 hu hcp
            go_enter Tryz.func70, Tryz.ntmps70
            go_wp2_with fail
            go_at_call 79
            refine (HI.out _).mono ?_
            rintro e w0 ⟨rfl, rfl⟩
            go_wp2_with fail
            go_at_call 88
            refine (HCU.out _).mono ?_
            rintro e w0 ⟨rfl, rfl⟩
            go_wp2_with fail
            go_at_call 89
            refine (HN.out _ hL).mono ?_
            rintro e w1 ⟨rfl, hb_w1⟩
            have hs1 := hb_w1.size
            go_wp2_with fail
            go_at_call 54
            refine (HMO.out _).mono ?_
            rintro e w2 ⟨rfl, rfl⟩
            go_wp2
            go_ret
            exact tellR_none HTO.out (hb_w1.mono (Nat.le_of_lt hgw))
    | false =>
      rw [hr] at hto
      simp only [Bool.false_and, Bool.false_eq_true, if_false] at hto
      have hlen : s.data.toList.length = s.size := Array.length_toList
      have HN : Hid (∀ W, Lw W → Calls Tryz.prog 89 #[.string s] W fun e w' => e = .returned (.tuple #[.int .u64 ((numE s.data.toList).getD 0 : Nat), .bool (numE s.data.toList).isSome]) ∧ Below W.heap.size W w') := Lib.hid fun W hL => numberOf_any (w := W) s hs hL
      rw [hr] at HI
      have HTO0 := Lib.hid hto
      clear hto hc hf hr hlen
      cases hq : numE s.data.toList with
      | none =>
        have hto := HTO0.out
        rw [hq] at hto HN
        simp only [Option.getD_none, Option.isSome_none] at HN
        have HTO := Lib.hid hto
        clear hto hq HTO0
        go_enter Tryz.func70, Tryz.ntmps70
        go_wp2_with fail
        go_at_call 79
        refine (HI.out _).mono ?_
        rintro e w0 ⟨rfl, rfl⟩
        go_wp2_with fail
        go_at_call 89
        refine (HN.out _ hL).mono ?_
        rintro e w1 ⟨rfl, hb_w1⟩
        have hs1 := hb_w1.size
        go_wp2
        go_ret
        exact tellR_none HTO.out (hb_w1.mono (Nat.le_of_lt hgw))
      | some u =>
        have hto := HTO0.out
        rw [hq] at hto HN
        simp only [Option.getD_some, Option.isSome_some] at HN hto
        by_cases hu : (u : Int) ≤ mostO o 0
        · rw [if_pos hu] at hto
          have e1 : decide (mostO o 0 < (u : Int)) = false := decide_eq_false (by omega)
          have HP := Lib.hid fun (W : World) hC hF => hcp.out W u hu hC hF
          have HTO := Lib.hid hto
          clear hto hq HTO0 hu hcp
          go_enter Tryz.func70, Tryz.ntmps70
          go_wp2_with fail
          go_at_call 79
          refine (HI.out _).mono ?_
          rintro e w0 ⟨rfl, rfl⟩
          go_wp2_with fail
          go_at_call 89
          refine (HN.out _ hL).mono ?_
          rintro e w1 ⟨rfl, hb_w1⟩
          have hs1 := hb_w1.size
          go_wp2_with fail
          go_at_call 54
          refine (HMO.out _).mono ?_
          rintro e w2 ⟨rfl, rfl⟩
          go_wp2_with fail
          go_at_call 55
          refine (HP.out _ (HC.out.later hb_w1) (fz_later HF.out hb_w1 hgw)).mono ?_
          rintro e w3 ⟨rfl, ⟨hC3, hF3⟩, hb_w3⟩
          have HC3 := Lib.hid hC3
          have HF3 := Lib.hid hF3
          have HB3 := Lib.hid ((hb_w1.mono (Nat.le_of_lt hgw)).trans hb_w3)
          clear hC3 hF3 hb_w3
          go_wp2
          go_ret
          exact tellR_some HTO.out HC3.out HF3.out HB3.out
        · rw [if_neg hu] at hto
          have e1 : decide (mostO o 0 < (u : Int)) = true := decide_eq_true (by omega)
          have HTO := Lib.hid hto
          clear hto hq HTO0 hu hcp
          go_enter Tryz.func70, Tryz.ntmps70
          go_wp2_with fail
          go_at_call 79
          refine (HI.out _).mono ?_
          rintro e w0 ⟨rfl, rfl⟩
          go_wp2_with fail
          go_at_call 89
          refine (HN.out _ hL).mono ?_
          rintro e w1 ⟨rfl, hb_w1⟩
          have hs1 := hb_w1.size
          go_wp2_with fail
          go_at_call 54
          refine (HMO.out _).mono ?_
          rintro e w2 ⟨rfl, rfl⟩
          go_wp2
          go_ret
          exact tellR_none HTO.out (hb_w1.mono (Nat.le_of_lt hgw))
end
end Go.Proofs.YtggaijdbaplfiaaGreatDoor
