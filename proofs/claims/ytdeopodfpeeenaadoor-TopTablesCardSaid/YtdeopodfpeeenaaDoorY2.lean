/- Contracts of package ephem: its leaves. -/
import Derived.Test.YtdeopodfpeeenaaDoorY1
namespace Go.Proofs.YtdeopodfpeeenaaDoor
open Go.RowKit
set_option linter.unusedVariables false
set_option linter.unusedSimpArgs false

/-- what the walks read of the table of trailing zeros -/
structure Tz (w : World) : Prop where
  c7 : w.cell? ⟨1, 7, none⟩ = some (.int .u8 3)
  c15 : w.cell? ⟨1, 15, none⟩ = some (.int .u8 4)
  c31 : w.cell? ⟨1, 31, none⟩ = some (.int .u8 5)
  c63 : w.cell? ⟨1, 63, none⟩ = some (.int .u8 6)
theorem Tz.lt {w : World} (h : Tz w) : 1 < w.heap.size := World.block_lt_of_cell? w _ h.c7
theorem Tz.below {w w' : World} (h : Tz w) {B : Nat} (hB : 1 < B) (hb : Below B w w') : Tz w' :=
  ⟨((bcell hb).1 _ _ hB).trans h.c7, ((bcell hb).1 _ _ hB).trans h.c15, ((bcell hb).1 _ _ hB).trans h.c31, ((bcell hb).1 _ _ hB).trans h.c63⟩
theorem Tz.later {w w' : World} (h : Tz w) (hb : Below w.heap.size w w') : Tz w' := h.below h.lt hb
theorem tz_any (n : Nat) (h : Sz n) (w : World) (hT : Tz w) :
    Calls Tryd.prog 47 #[.int .u64 (n : Nat)] w fun e w' => e = .returned (.int .i64 (if n = 8 then 3 else if n = 16 then 4 else if n = 32 then 5 else 6)) ∧ w = w' := by
  obtain ⟨c7, c15, c31, c63⟩ := hT
  rcases h with rfl | rfl | rfl | rfl
  · have e0 : IntKind.u64.wrap (-8) = 18446744073709551608 := by decide +kernel
    have e1 : bits .and .u64 8 18446744073709551608 = 8 := by decide +kernel
    have e2 : IntKind.u64.wrap (2286961704410830920) = 2286961704410830920 := by decide +kernel
    go_enter Tryd.func47, Tryd.ntmps47
    go_wp2
    go_ret
    exact ⟨rfl, rfl⟩
  · have e0 : IntKind.u64.wrap (-16) = 18446744073709551600 := by decide +kernel
    have e1 : bits .and .u64 16 18446744073709551600 = 16 := by decide +kernel
    have e2 : IntKind.u64.wrap (4573923408821661840) = 4573923408821661840 := by decide +kernel
    go_enter Tryd.func47, Tryd.ntmps47
    go_wp2
    go_ret
    exact ⟨rfl, rfl⟩
  · have e0 : IntKind.u64.wrap (-32) = 18446744073709551584 := by decide +kernel
    have e1 : bits .and .u64 32 18446744073709551584 = 32 := by decide +kernel
    have e2 : IntKind.u64.wrap (9147846817643323680) = 9147846817643323680 := by decide +kernel
    go_enter Tryd.func47, Tryd.ntmps47
    go_wp2
    go_ret
    exact ⟨rfl, rfl⟩
  · have e0 : IntKind.u64.wrap (-64) = 18446744073709551552 := by decide +kernel
    have e1 : bits .and .u64 64 18446744073709551552 = 64 := by decide +kernel
    have e2 : IntKind.u64.wrap (18295693635286647360) = 18295693635286647360 := by decide +kernel
    go_enter Tryd.func47, Tryd.ntmps47
    go_wp2
    go_ret
    exact ⟨rfl, rfl⟩
theorem tz2_any (n : Nat) (h : Sz n) (w : World) (hT : Tz w) :
    Calls Tryd.prog 45 #[.int .u64 (n : Nat)] w fun e w' => e = .returned (.int .i64 (if n = 8 then 3 else if n = 16 then 4 else if n = 32 then 5 else 6)) ∧ w = w' := by
  have H := Lib.hid fun (w : World) hT => tz_any n h w hT
  rcases h with rfl | rfl | rfl | rfl
  all_goals
    go_enter Tryd.func45, Tryd.ntmps45
    go_wp2_with (go_at_call 47; refine (H.out _ hT).mono ?_; rintro e w' ⟨rfl, rfl⟩)
    go_ret
    exact ⟨rfl, rfl⟩
theorem sized_any (n : Int) (w : World) (r : Bool) (h : r = decide (n = 8 ∨ n = 16 ∨ n = 32 ∨ n = 64)) :
    Calls Tryd.prog 29 #[.int .i64 n] w fun e w' => e = .returned (.bool r) ∧ w = w' := by
  subst h
  by_cases h1 : n = 8
  · subst h1
    go_enter Tryd.func29, Tryd.ntmps29
    go_wp2
    go_ret
    exact ⟨rfl, rfl⟩
  by_cases h2 : n = 16
  · subst h2
    go_enter Tryd.func29, Tryd.ntmps29
    go_wp2
    go_ret
    exact ⟨rfl, rfl⟩
  by_cases h3 : n = 32
  · subst h3
    go_enter Tryd.func29, Tryd.ntmps29
    go_wp2
    go_ret
    exact ⟨rfl, rfl⟩
  by_cases h4 : n = 64
  · subst h4
    go_enter Tryd.func29, Tryd.ntmps29
    go_wp2
    go_ret
    exact ⟨rfl, rfl⟩
  have f1 : (n == 8) = false := by simpa using h1
  have f2 : (n == 16) = false := by simpa using h2
  have f3 : (n == 32) = false := by simpa using h3
  have f4 : (n == 64) = false := by simpa using h4
  have f5 : decide (n = 8 ∨ n = 16 ∨ n = 32 ∨ n = 64) = false := by simp; omega
  rw [f5]
  clear h1 h2 h3 h4 f5
  go_enter Tryd.func29, Tryd.ntmps29
  go_wp2
  go_ret
  exact ⟨rfl, rfl⟩
theorem enough_any (f n : Int) (w : World) (h0 : 0 ≤ f) (h1 : f ≤ 5864062014805) :
    Calls Tryd.prog 31 #[.int .i64 f, .int .i64 n] w fun e w' => e = .returned (.bool (decide (n ≤ f * 4))) ∧ w = w' := by
  go_enter Tryd.func31, Tryd.ntmps31
  go_wp2
  go_ret
  exact ⟨rfl, rfl⟩
theorem hm8 (key : Nat) : hm key 8 = key * FAC % W64 / 2305843009213693952 := rfl
theorem hm16 (key : Nat) : hm key 16 = key * FAC % W64 / 1152921504606846976 := rfl
theorem hm32 (key : Nat) : hm key 32 = key * FAC % W64 / 576460752303423488 := rfl
theorem hm64 (key : Nat) : hm key 64 = key * FAC % W64 / 288230376151711744 := rfl
theorem home_form (key q : Nat) (hq : key * FAC % W64 / q < 64) : wrap64 (IntKind.u64.wrap (↑key * 11400714819323198485) / (q : Nat)) = ((key * FAC % W64 / q : Nat) : Int) := by
  have e : IntKind.u64.wrap ((key : Int) * 11400714819323198485) = ((key * FAC % W64 : Nat) : Int) := by
    rw [IntKind.wrap_u64]
    unfold FAC W64
    omega
  rw [e]
  generalize key * FAC % W64 = x at *
  rw [← Int.natCast_ediv]
  generalize x / q = y at *
  unfold wrap64
  omega
theorem home_any (key n : Nat) (h : Sz n) (w : World) (hT : Tz w) :
    Calls Tryd.prog 43 #[.int .u64 (key : Nat), .int .i64 (n : Nat)] w fun e w' => e = .returned (.int .i64 (hm key n : Nat)) ∧ w = w' := by
  have H := Lib.hid fun (w : World) hT => tz2_any n h w hT
  have HL := hm_lt key h
  rcases h with rfl | rfl | rfl | rfl
  · go_enter Tryd.func43, Tryd.ntmps43
    go_wp2_with (go_at_call 45; refine (H.out _ hT).mono ?_; rintro e w' ⟨rfl, rfl⟩)
    go_ret
    exact ⟨ret_int (home_form key 2305843009213693952 (by rw [← hm8]; omega)), rfl⟩
  · go_enter Tryd.func43, Tryd.ntmps43
    go_wp2_with (go_at_call 45; refine (H.out _ hT).mono ?_; rintro e w' ⟨rfl, rfl⟩)
    go_ret
    exact ⟨ret_int (home_form key 1152921504606846976 (by rw [← hm16]; omega)), rfl⟩
  · go_enter Tryd.func43, Tryd.ntmps43
    go_wp2_with (go_at_call 45; refine (H.out _ hT).mono ?_; rintro e w' ⟨rfl, rfl⟩)
    go_ret
    exact ⟨ret_int (home_form key 576460752303423488 (by rw [← hm32]; omega)), rfl⟩
  · go_enter Tryd.func43, Tryd.ntmps43
    go_wp2_with (go_at_call 45; refine (H.out _ hT).mono ?_; rintro e w' ⟨rfl, rfl⟩)
    go_ret
    exact ⟨ret_int (home_form key 288230376151711744 (by rw [← hm64]; omega)), rfl⟩
end Go.Proofs.YtdeopodfpeeenaaDoor
