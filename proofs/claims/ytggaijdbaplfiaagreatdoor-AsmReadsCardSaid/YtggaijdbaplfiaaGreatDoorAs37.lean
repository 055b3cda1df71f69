/- Contracts of the document's package: number. -/
import Derived.Test.YtggaijdbaplfiaaGreatDoorAs34
import Derived.Test.YtggaijdbaplfiaaGreatDoorAsBk
namespace Go.Proofs.YtggaijdbaplfiaaGreatDoor
open Go.RowKit
set_option linter.unusedVariables false
set_option linter.unusedSimpArgs false
def valM (s : List UInt8) : Nat := s.foldl (fun n c => (10 * n + (c.toNat - 48)) % 18446744073709551616) 0
theorem val_snoc (a : List UInt8) (c : UInt8) : valM (a ++ [c]) = (10 * valM a + (c.toNat - 48)) % 18446744073709551616 := by simp [valM]
theorem val_take (s : List UInt8) (k : Nat) (hk : k < s.length) : valM (s.take (k + 1)) = (10 * valM (s.take k) + (s[k].toNat - 48)) % 18446744073709551616 := by
  rw [List.take_add_one, List.getElem?_eq_getElem hk]
  exact val_snoc _ _
theorem val_lt (s : List UInt8) : valM s < 18446744073709551616 := by
  rcases List.eq_nil_or_concat s with rfl | ⟨a, c, rfl⟩
  · decide
  · rw [List.concat_eq_append, val_snoc]
    exact Nat.mod_lt _ (by decide)
theorem val_digF : ∀ (f u : Nat), u < 10 ^ f → u < 18446744073709551616 → valM (digF f u) = u
  | 0, u, h, _ => by
    have : u = 0 := by omega
    subst this
    rfl
  | f + 1, u, h, hu => by
    rw [digF]
    rw [Nat.pow_succ] at h
    by_cases h10 : u < 10
    · have hd := dig_toNat u h10
      have e : valM [UInt8.ofNat (48 + u)] = (10 * 0 + ((UInt8.ofNat (48 + u)).toNat - 48)) % 18446744073709551616 := rfl
      rw [if_pos h10, e, hd]
      omega
    · have hd := dig_toNat (u % 10) (by omega)
      rw [if_neg h10, val_snoc, val_digF f (u / 10) (by omega) (by omega), hd]
      omega
theorem numE_some {s : List UInt8} {u : Nat} (h : numE s = some u) : digs u = s ∧ u < 18446744073709551616 := by
  unfold numE at h
  split at h
  · rename_i v hv
    split at h
    · rename_i hd
      injection h with h
      subst h
      exact ⟨hd, pu_le hv⟩
    · cases h
  · cases h
theorem numE_val (s : List UInt8) : numE s = if digs (valM s) = s then some (valM s) else none := by
  split
  · rename_i h
    have := numE_digs (valM s) (val_lt s)
    rw [h] at this
    exact this
  · rename_i h
    cases hn : numE s with
    | none => rfl
    | some u =>
      obtain ⟨h1, h2⟩ := numE_some hn
      have := val_digF 20 u (Nat.lt_trans h2 (by decide)) h2
      have h3 : valM s = u := by rw [← h1]; exact this
      rw [h3] at h
      exact absurd h1 h
theorem numE_chr {s : List UInt8} {k : Nat} (hk : k < s.length) (h : s[k].toNat < 48 ∨ 57 < s[k].toNat) : numE s = none := by
  cases hn : numE s with
  | none => rfl
  | some u =>
    obtain ⟨h1, h2⟩ := numE_some hn
    have := digs_in u s[k] (by rw [h1]; exact List.getElem_mem hk)
    omega
theorem numE_long {s : List UInt8} (h : 20 < s.length) : numE s = none := by
  cases hn : numE s with
  | none => rfl
  | some u =>
    obtain ⟨h1, h2⟩ := numE_some hn
    have := digF_len 20 u
    have h3 : (digF 20 u).length = s.length := by rw [← h1]; rfl
    omega
theorem wrap_num (n v : Nat) (h : 48 ≤ v) : IntKind.u64.wrap (IntKind.u64.wrap (10 * (n : Int)) + ((v : Int) - 48)) = (((10 * n + (v - 48)) % 18446744073709551616 : Nat) : Int) := by
  unfold IntKind.wrap
  simp [IntKind.signed, IntKind.bits]
  omega
def NumA (r : Option Nat) (e : Ending) : Prop := ∃ u : Nat, u < 18446744073709551616 ∧ e = .returned (.tuple #[.int .u64 (u : Nat), .bool r.isSome]) ∧ ∀ v, r = some v → u = v
section
variable {w : World}
set_option maxRecDepth 100000 in
set_option maxHeartbeats 8000000 in
theorem xnumber_any (s : ByteArray) (hs : s.size ≤ 65536) : Calls Tryz.prog 72 #[.string s] w fun e w' => NumA (numE s.data.toList) e ∧ Below w.heap.size w w' := by
  have hlen : s.data.toList.length = s.size := Array.length_toList
  have HT := Lib.hid fun k (hk : k < s.data.toList.length) => val_take s.data.toList k hk
  have HE : Hid (s.data.toList.take s.size = s.data.toList) := Lib.hid (by rw [List.take_of_length_le (by omega)])
  have HNO := Lib.hid fun k (hk : k < s.data.toList.length) h => numE_chr (s := s.data.toList) hk h
  have HLO := Lib.hid fun h => numE_long (s := s.data.toList) h
  have HV := Lib.hid fun l => val_lt l
  have HQ := Lib.hid (numE_val s.data.toList)
  have HB : Hid (s.toList = s.data.toList) := Lib.hid (ByteArray.toList_eq s)
  have HD := Lib.hid fun (w : World) (n : Nat) hn => xdigits_any (w := w) n hn
  have hno : ∀ r : Option Nat, r = none → NumA r (.returned (.tuple #[.int .u64 0, .bool false])) := fun r h => ⟨0, by decide, by rw [h]; rfl, fun v hv => by rw [h] at hv; cases hv⟩
  have HNA := Lib.hid hno
  clear hno
  go_enter Tryz.func72, Tryz.ntmps72
  go_wp2_with fail
  go_loopw [4, 5] (fun nn ii wr => ∃ k n : Nat, nn = .int .u64 (n : Nat) ∧ n < 18446744073709551616 ∧ ii = .int .i64 (k : Nat) ∧ k ≤ s.size ∧ Hid (valM (s.data.toList.take k) = n) ∧ Below w.heap.size w wr) (fun nn ii _ => s.size - (intOf ii).toNat)
  case atStart => exact ⟨0, 0, rfl, by decide, rfl, Nat.zero_le _, Lib.hid (by simp [valM]), (by repeat (first | exact Below.refl _ _ | assumption | (refine below_drewN ?_ _) | (refine Below.drew ?_) | (refine Below.alloc ?_ (by first | omega | (simp; omega) | simp) _) | (refine Below.setCell ?_ (by first | omega | (simp; omega) | simp) _) | (refine below_trans ?_ (by assumption) (by first | omega | (simp; omega) | simp))))⟩
  case round =>
    obtain ⟨k, n, rfl, hn, rfl, hk, HA, hb_wr⟩ := hrel
    have hsr := hb_wr.size
    by_cases hlt : k < s.size
    · have hk9 : k < s.data.toList.length := by omega
      have i0 : (0 : Int) ≤ (k : Int) := by omega
      have i1 : (k : Int) < (s.size : Int) := by omega
      obtain ⟨c, hcd⟩ : ∃ c, s.data.toList[k] = c := ⟨_, rfl⟩
      have hC : (s[k]'hlt).toNat = c.toNat := by rw [← hcd]; rfl
      have hT := HT.out k hk9
      have hN := HNO.out k hk9
      rw [hcd] at hT hN
      rw [HA.out] at hT
      have hc8 : c.toNat < 256 := c.toNat_lt
      clear hcd hk9
      generalize c.toNat = v at *
      by_cases c48 : v < 48
      · have HR := Lib.hid (hN (.inl c48))
        clear hN hT
        have d1 : decide ((v : Int) < 48) = true := decide_eq_true (by omega)
        have d2 : decide (v < 48) = true := decide_eq_true (by omega)
        go_wp2
        go_ret2
        exact ⟨HNA.out _ HR.out, (by repeat (first | exact Below.refl _ _ | assumption | (refine below_drewN ?_ _) | (refine Below.drew ?_) | (refine Below.alloc ?_ (by first | omega | (simp; omega) | simp) _) | (refine Below.setCell ?_ (by first | omega | (simp; omega) | simp) _) | (refine below_trans ?_ (by assumption) (by first | omega | (simp; omega) | simp))))⟩
      · have d1 : decide ((v : Int) < 48) = false := decide_eq_false (by omega)
        have d2 : decide (v < 48) = false := decide_eq_false (by omega)
        by_cases c57 : 57 < v
        · have HR := Lib.hid (hN (.inr c57))
          clear hN hT
          have d3 : decide (57 < (v : Int)) = true := decide_eq_true (by omega)
          have d4 : decide (57 < v) = true := decide_eq_true (by omega)
          go_wp2
          go_ret2
          exact ⟨HNA.out _ HR.out, (by repeat (first | exact Below.refl _ _ | assumption | (refine below_drewN ?_ _) | (refine Below.drew ?_) | (refine Below.alloc ?_ (by first | omega | (simp; omega) | simp) _) | (refine Below.setCell ?_ (by first | omega | (simp; omega) | simp) _) | (refine below_trans ?_ (by assumption) (by first | omega | (simp; omega) | simp))))⟩
        · have d3 : decide (57 < (v : Int)) = false := decide_eq_false (by omega)
          have d4 : decide (57 < v) = false := decide_eq_false (by omega)
          clear hN
          by_cases k19 : 19 < k
          · have HR := Lib.hid (HLO.out (by omega))
            clear hT
            have d5 : decide (19 < (k : Int)) = true := decide_eq_true (by omega)
            have d6 : decide (19 < k) = true := decide_eq_true (by omega)
            go_wp2
            go_ret2
            exact ⟨HNA.out _ HR.out, (by repeat (first | exact Below.refl _ _ | assumption | (refine below_drewN ?_ _) | (refine Below.drew ?_) | (refine Below.alloc ?_ (by first | omega | (simp; omega) | simp) _) | (refine Below.setCell ?_ (by first | omega | (simp; omega) | simp) _) | (refine below_trans ?_ (by assumption) (by first | omega | (simp; omega) | simp))))⟩
          · have d5 : decide (19 < (k : Int)) = false := decide_eq_false (by omega)
            have d6 : decide (19 < k) = false := decide_eq_false (by omega)
            have HT2 := Lib.hid hT
            clear hT
            go_wp2
            go_roundw
            case rel => exact ⟨k + 1, (10 * n + (v - 48)) % 18446744073709551616, by rw [wrap_num n v (by omega)], Nat.mod_lt _ (by decide), by go_num, by omega, HT2, (by repeat (first | exact Below.refl _ _ | assumption | (refine below_drewN ?_ _) | (refine Below.drew ?_) | (refine Below.alloc ?_ (by first | omega | (simp; omega) | simp) _) | (refine Below.setCell ?_ (by first | omega | (simp; omega) | simp) _) | (refine below_trans ?_ (by assumption) (by first | omega | (simp; omega) | simp))))⟩
            case measure => simp [intOf]; omega
    · obtain rfl : k = s.size := by omega
      have hA := HA.out
      rw [HE.out] at hA
      have hq := HQ.out
      rw [hA] at hq
      by_cases h0 : s.size = 0
      · have z0 : s.toList = [] := by rw [HB.out]; exact List.eq_nil_of_length_eq_zero (by omega)
        have z1 : (s.toList == []) = true := by rw [z0]; rfl
        have z2 : (s.toList != []) = false := by rw [z0]; rfl
        have HR : Hid (numE s.data.toList = none) := Lib.hid (by
          rw [hq, if_neg]
          intro h
          exact digs_ne n (by rw [h, ← HB.out, z0]))
        clear hq hA z0
        go_wp2
        go_ret2
        refine ⟨⟨n, hn, by rw [HR.out]; rfl, fun v hv => ?_⟩, (by repeat (first | exact Below.refl _ _ | assumption | (refine below_drewN ?_ _) | (refine Below.drew ?_) | (refine Below.alloc ?_ (by first | omega | (simp; omega) | simp) _) | (refine Below.setCell ?_ (by first | omega | (simp; omega) | simp) _) | (refine below_trans ?_ (by assumption) (by first | omega | (simp; omega) | simp))))⟩
        rw [HR.out] at hv
        cases hv
      · have z0 : s.toList ≠ [] := by
          rw [HB.out]
          intro e
          rw [e] at hlen
          exact h0 hlen.symm
        have z1 : (s.toList == []) = false := by simpa using z0
        have z2 : (s.toList != []) = true := by simpa using z0
        have hbl : (bs (digs n)).toList = digs n := by rw [ByteArray.toList_eq, bs_data]
        obtain ⟨b, hb⟩ : ∃ b, ((bs (digs n)).toList == s.toList) = b := ⟨_, rfl⟩
        have HR : Hid (numE s.data.toList = if b then some n else none) := Lib.hid (by
          rw [hq, ← hb, hbl, HB.out]
          by_cases e : digs n = s.data.toList
          · rw [if_pos e, if_pos (by simpa using e)]
          · rw [if_neg e, if_neg (by simpa using e)])
        clear hq hA z0 hbl
        have hb2 := hb
        clear hb
        have HB2 := Lib.hid hb2
        clear hb2
        go_wp2_with fail
        go_wp2_with fail
        go_at_call 34
        refine (HD.out _ n hn).mono ?_
        rintro e w1 ⟨rfl, hb_w1⟩
        obtain ⟨hc_w1, hf_w1⟩ := bcell hb_w1; have hs_w1 := hb_w1.size; (try simp only [World.size_alloc, World.size_setCell, World.size_drew, World.heap_drewN] at hs_w1)
        go_wp2
        go_ret2
        have hb2 := HB2.out
        refine ⟨⟨n, hn, by rw [HR.out, ← hb2]; cases ((bs (digs n)).toList == s.toList) <;> rfl, fun v hv => ?_⟩, (by repeat (first | exact Below.refl _ _ | assumption | (refine below_drewN ?_ _) | (refine Below.drew ?_) | (refine Below.alloc ?_ (by first | omega | (simp; omega) | simp) _) | (refine Below.setCell ?_ (by first | omega | (simp; omega) | simp) _) | (refine below_trans ?_ (by assumption) (by first | omega | (simp; omega) | simp))))⟩
        rw [HR.out] at hv
        cases b
        · cases hv
        · exact Option.some.inj hv
end
end Go.Proofs.YtggaijdbaplfiaaGreatDoor
