/- Contracts: strconv.FormatUint and Itoa; package asm: word. -/
import Derived.Test.YtggaijdbaplfiaaGreatDoorAM2
import Derived.Test.YtggaijdbaplfiaaGreatDoorAsL
import Derived.Lib.AppendIntMem
namespace Go.Proofs.YtggaijdbaplfiaaGreatDoor
open Go.RowKit Go.Lib Go.Sort
set_option linter.unusedVariables false
set_option linter.unusedSimpArgs false
section
variable {w : World}
abbrev fu8 : UInt8 → Value := fun b => Value.int .u8 (b.toNat : Int)
set_option maxHeartbeats 6400000 in
set_option maxRecDepth 100000 in
theorem formatU_lo (u : Nat) (h : u < 100) : Calls Tryz.prog 96 #[.int .u64 (u : Nat), .int .i64 10] w fun e w' => e = .returned (.string (bs (digs u))) ∧ Below w.heap.size w w' := by
  have d1 : decide ((u : Int) < 100) = true := decide_eq_true (by omega)
  have hw : IntKind.i64.wrap (u : Int) = (u : Int) := by unfold IntKind.wrap; simp [IntKind.signed, IntKind.bits]; omega
  have HS := Lib.hid fun (W : World) => L_internal_strconv_small u h W
  have HD : Hid ((⟨(Lib.decDigits u).toArray⟩ : ByteArray) = bs (digs u)) := Lib.hid (by rw [digs_eq u (by omega)]; rfl)
  go_enter Tryz.func96, Tryz.ntmps96
  go_wp2_with fail
  go_at_call 98
  refine (HS.out _).mono ?_
  rintro e w1 ⟨rfl, rfl⟩
  go_wp2
  go_ret
  rw [← HD.out]
  exact ⟨rfl, (by repeat (first | exact Below.refl _ _ | assumption | (refine below_drewN ?_ _) | (refine Below.drew ?_) | (refine Below.alloc ?_ (by first | omega | (simp; omega) | simp) _) | (refine Below.setCell ?_ (by first | omega | (simp; omega) | simp) _) | (refine below_trans ?_ (by assumption) (by first | omega | (simp; omega) | simp))))⟩
set_option maxHeartbeats 6400000 in
set_option maxRecDepth 100000 in
theorem formatU_hi (u : Nat) (h : ¬ u < 100) (hu64 : u < 18446744073709551616) (hL : Lw w) : Calls Tryz.prog 96 #[.int .u64 (u : Nat), .int .i64 10] w fun e w' => e = .returned (.string (bs (digs u))) ∧ Below w.heap.size w w' := by
  have d1 : decide ((u : Int) < 100) = false := decide_eq_false (by omega)
  have hu1 : 1 ≤ u := by omega
  have hnd20 : Lib.nDigits u ≤ 20 := by have := Lib.numDigits_eq u hu1 hu64; split at this <;> omega
  have hal : Tryz.prog.arrayLen 145 = 24 := by simp [Program.arrayLen, Tryz.underlying145]
  have hsl1 : ∀ W, (Instr.sliceAt 145 (.pointer (some ⟨w.heap.size, 0, none⟩)) none (some (.int .i64 (Lib.nDigits u : Int))) none).run Tryz.prog W = .ok (.slice (some ⟨w.heap.size, 0, none⟩) (Lib.nDigits u) 24) W := fun W => by
    rw [run_sliceAt_array_h W 145 ⟨w.heap.size, 0, none⟩ (by simp [Program.arrayLen, Program.elem, Tryz.underlying145]) .i64 (Lib.nDigits u : Int) (by omega) (by rw [hal]; omega)]
    go_simp
  have hH0 := Lib.holds_zero0 w 145 (Lib.nDigits u) (by omega)
  have hfmt := L_internal_strconv_formatBase10 w.heap.size 0 24 u (Array.replicate (Lib.nDigits u) 0) (w.alloc (.cells Lib.zeros24 145)) hH0 (by rw [Array.size_replicate]; exact Lib.lt_pow_nDigits u) hu64 (by rw [Array.size_replicate]; omega)
  rw [Array.size_replicate] at hfmt
  have HH0 := Lib.hid hH0
  have HD : Hid ((⟨(Lib.decDigits u).toArray⟩ : ByteArray) = bs (digs u)) := Lib.hid (by rw [digs_eq u hu64]; rfl)
  clear hH0 hal
  go_enter Tryz.func96, Tryz.ntmps96
  go_wp2_with (go_at_call 99; refine (L_internal_strconv_numDigits u hu1 hu64 _ (Lib.tabIs_alloc hL.tab _)).mono ?_; rintro e w' ⟨rfl, rfl⟩)
  go_at_call 100
  refine hfmt.mono ?_
  rintro e w' ⟨rfl, k, v', dk, rfl, hF⟩
  have hcv : (convert 86 9 (.slice (some ⟨w.heap.size, 0, none⟩) (Lib.nDigits u) 24)).run Tryz.prog ((putRow fu8 (w.alloc (.cells Lib.zeros24 145)) w.heap.size 0 dk).drewN k) = .ok (.string ⟨(Lib.decDigits u).toArray⟩) ((putRow fu8 (w.alloc (.cells Lib.zeros24 145)) w.heap.size 0 dk).drewN k) := by
    have h := run_convert_bytes_back (P := Tryz.prog) ((putRow fu8 (w.alloc (.cells Lib.zeros24 145)) w.heap.size 0 dk).drewN k) 86 9 5 ⟨w.heap.size, 0, none⟩ 24 (Lib.decDigits u) Tryz.underlying86 Tryz.underlying5 Tryz.underlying9 (fun j hj => by
      rw [Lib.row_is_numeral hF j hj, Lib.add_plain, World.cell?_drewN]
      exact cell?_putRow fu8 _ w.heap.size 0 _ dk HH0.out (by rw [hF.size, Array.size_replicate]) j (by rw [hF.size]; rw [Lib.decDigits_length] at hj; exact hj))
    rw [Lib.decDigits_length] at h
    exact h
  go_wp2
  go_ret
  rw [← HD.out]
  refine ⟨rfl, ?_⟩
  obtain ⟨os', _, e⟩ := putRow_grow_new fu8 w #[.cells Lib.zeros24 145] w.heap.size 0 dk (Nat.le_refl _)
  rw [alloc_eq_grow, e]
  exact Lib.below_grow _ _ (Nat.le_refl _) k os'
theorem formatUint_any (v : Int) (h0 : 0 ≤ v) (h : v < 18446744073709551616) (hL : Lw w) : Calls Tryz.prog 78 #[.int .u64 v, .int .i64 10] w fun e w' => e = .returned (.string (bs (digs v.toNat))) ∧ Below w.heap.size w w' := by
  obtain ⟨u, rfl⟩ : ∃ u : Nat, v = u := ⟨v.toNat, by omega⟩
  have HF : Hid (∀ W, Lw W → Calls Tryz.prog 96 #[.int .u64 (u : Nat), .int .i64 10] W fun e w' => e = .returned (.string (bs (digs u))) ∧ Below W.heap.size W w') := Lib.hid fun W hL => by
    by_cases h1 : u < 100
    · exact formatU_lo u h1
    · exact formatU_hi u h1 (by omega) hL
  simp only [Int.toNat_natCast]
  go_enter Tryz.func78, Tryz.ntmps78
  go_wp2_with fail
  go_at_call 96
  refine (HF.out _ hL).mono ?_
  rintro e w1 ⟨rfl, hb_w1⟩
  obtain ⟨hc_w1, hf_w1⟩ := bcell hb_w1; have hs_w1 := hb_w1.size; (try simp only [World.size_alloc, World.size_setCell, World.size_drew, World.heap_drewN] at hs_w1)
  go_wp2
  go_ret
  exact ⟨rfl, (by repeat (first | exact Below.refl _ _ | assumption | (refine below_drewN ?_ _) | (refine Below.drew ?_) | (refine Below.alloc ?_ (by first | omega | (simp; omega) | simp) _) | (refine Below.setCell ?_ (by first | omega | (simp; omega) | simp) _) | (refine below_trans ?_ (by assumption) (by first | omega | (simp; omega) | simp))))⟩
theorem itoa_nat (n : Int) (h0 : 0 ≤ n) (h1 : n ≤ 9223372036854775807) (hL : Lw w) : Calls Tryz.prog 32 #[.int .i64 n] w fun e w' => e = .returned (.string (bs (digs n.toNat))) ∧ Below w.heap.size w w' := by
  rw [← itoa_eq n h0 (by omega)]
  refine (L_strconv_Itoa n (by omega) h1 w hL.tab).mono ?_
  rintro e w' ⟨rfl, k, os, rfl⟩
  exact ⟨rfl, Lib.below_grow _ _ (Nat.le_refl _) _ _⟩
theorem digs_size (n : Nat) : (bs (digs n)).size ≤ 20 := by rw [bs_size]; exact digF_len 20 n
set_option maxHeartbeats 4000000 in
set_option maxRecDepth 100000 in
theorem word_any (o : Nat) (ho1 : 1 ≤ o) (ho9 : o ≤ 9) (x : In) (hg : o = 9 ∨ (0 ≤ getO o x ∧ getO o x < 18446744073709551616 ∧ gV o x = getO o x)) (lb : List UInt8) (hL : Lw w) :
    Calls Tryz.prog 57 #[.int .i64 (o : Nat), .agg #[.int .u8 x.kd, .int .u8 x.op, .int .i64 x.oa, .int .i64 x.ob, .int .i64 x.fd, .int .i64 x.n, .int .u64 x.m, .int .u64 x.w, .int .i64 x.a, .int .i64 x.b, .int .i64 x.to], .string (bs lb)] w fun e w' => e = .returned (.string (bs (wordO x lb o))) ∧ Below w.heap.size w w' := by
  by_cases h9 : o = 9
  · subst h9
    have hw : wordO x lb 9 = lb := rfl
    rw [hw]
    go_enter Tryz.func57, Tryz.ntmps57
    go_wp2
    go_ret
    exact ⟨rfl, (by repeat (first | exact Below.refl _ _ | assumption | (refine below_drewN ?_ _) | (refine Below.drew ?_) | (refine Below.alloc ?_ (by first | omega | (simp; omega) | simp) _) | (refine Below.setCell ?_ (by first | omega | (simp; omega) | simp) _) | (refine below_trans ?_ (by assumption) (by first | omega | (simp; omega) | simp))))⟩
  · obtain ⟨g0, g1, g2⟩ := hg.resolve_left h9
    have e9 : ((o : Int) == 9) = false := by simp; omega
    have HG : Hid (∀ W, Calls Tryz.prog 53 #[.int .i64 (o : Nat), .agg #[.int .u8 x.kd, .int .u8 x.op, .int .i64 x.oa, .int .i64 x.ob, .int .i64 x.fd, .int .i64 x.n, .int .u64 x.m, .int .u64 x.w, .int .i64 x.a, .int .i64 x.b, .int .i64 x.to]] W fun e w' => e = .returned (.int .u64 (getO o x)) ∧ Below W.heap.size W w') := Lib.hid fun W => by
      have := get_agg (w := W) o ho1 ho9 x
      rwa [g2] at this
    have HF := Lib.hid fun (W : World) hL => formatUint_any (w := W) (getO o x) g0 g1 hL
    have HI := Lib.hid fun (W : World) => isReg_any (w := W) o ho9
    have hsz := digs_size (getO o x).toNat
    have hwd : wordO x lb o = if isR o then [114] ++ digs (getO o x).toNat else digs (getO o x).toNat := by unfold wordO; rw [if_neg h9]; rfl
    have HW : Hid (bs (wordO x lb o) = if isR o then ⟨#[114]⟩ ++ bs (digs (getO o x).toNat) else bs (digs (getO o x).toNat)) := Lib.hid (by
      rw [hwd]
      split
      · rw [← bs_append]; rfl
      · rfl)
    clear hwd hg g2 g0 g1 h9
    generalize bs (wordO x lb o) = RW at *
    generalize bs (digs (getO o x).toNat) = D at *
    generalize getO o x = v at *
    have z1 : ¬ (9223372036854775807 < 1 + D.size) := by omega
    go_enter Tryz.func57, Tryz.ntmps57
    go_wp2_with fail
    go_at_call 53
    refine (HG.out _).mono ?_
    rintro e w1 ⟨rfl, hb_w1⟩
    obtain ⟨hc_w1, hf_w1⟩ := bcell hb_w1; have hz_w1_w_0 : w.heap.size < w1.heap.size := (by have hzz := hb_w1.size; (try simp only [World.size_alloc, World.size_setCell, World.size_drew, World.heap_drewN] at hzz); omega); have hs_w1 := hb_w1.size; (try simp only [World.size_alloc, World.size_setCell, World.size_drew, World.heap_drewN] at hs_w1)
    go_wp2_with fail
    go_at_call 78
    refine (HF.out _ (hL.later (by repeat (first | exact Below.refl _ _ | assumption | (refine below_drewN ?_ _) | (refine Below.drew ?_) | (refine Below.alloc ?_ (by first | omega | (simp; omega) | simp) _) | (refine Below.setCell ?_ (by first | omega | (simp; omega) | simp) _) | (refine below_trans ?_ (by assumption) (by first | omega | (simp; omega) | simp)))))).mono ?_
    rintro e w2 ⟨rfl, hb_w2⟩
    obtain ⟨hc_w2, hf_w2⟩ := bcell hb_w2; have hs_w2 := hb_w2.size; (try simp only [World.size_alloc, World.size_setCell, World.size_drew, World.heap_drewN] at hs_w2)
    go_wp2_with fail
    go_at_call 79
    refine (HI.out _).mono ?_
    rintro e w3 ⟨rfl, rfl⟩
    cases hr : isR o with
    | true =>
      have hq := HW.out
      rw [hr, if_pos rfl] at hq
      have HQ := Lib.hid hq
      clear hq HW
      go_wp2
      go_ret
      rw [HQ.out]
      exact ⟨rfl, (by repeat (first | exact Below.refl _ _ | assumption | (refine below_drewN ?_ _) | (refine Below.drew ?_) | (refine Below.alloc ?_ (by first | omega | (simp; omega) | simp) _) | (refine Below.setCell ?_ (by first | omega | (simp; omega) | simp) _) | (refine below_trans ?_ (by assumption) (by first | omega | (simp; omega) | simp))))⟩
    | false =>
      have hq := HW.out
      rw [hr, if_neg (by simp)] at hq
      have HQ := Lib.hid hq
      clear hq HW
      go_wp2
      go_ret
      rw [HQ.out]
      exact ⟨rfl, (by repeat (first | exact Below.refl _ _ | assumption | (refine below_drewN ?_ _) | (refine Below.drew ?_) | (refine Below.alloc ?_ (by first | omega | (simp; omega) | simp) _) | (refine Below.setCell ?_ (by first | omega | (simp; omega) | simp) _) | (refine below_trans ?_ (by assumption) (by first | omega | (simp; omega) | simp))))⟩
end
end Go.Proofs.YtggaijdbaplfiaaGreatDoor
