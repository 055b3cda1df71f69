/- Contracts of package script: timesOf. -/
import Derived.Test.YtklbamkafldagaaDoorSe9
import Derived.Lib.SmallJoins
namespace Go.Proofs.YtklbamkafldagaaDoor
open Go.RowKit
set_option linter.unusedVariables false
set_option linter.unusedSimpArgs false

theorem atoi_in {l : List UInt8} {v : Int} (h : Lib.atoiAll l = .ok v) : -9223372036854775808 ≤ v ∧ v ≤ 9223372036854775807 := by
  unfold Lib.atoiAll at h
  split at h
  · cases h
  · simp only at h
    split at h
    · cases h
    · cases h
    · rename_i u hu
      split at h
      · cases h
      · split at h
        · cases h
        · injection h with h
          subst h
          split <;> omega
theorem list_bytes (a b : ByteArray) : (a.toList == b.toList) = decide (a.data.toList = b.data.toList) := by
  rw [ByteArray.toList_eq, ByteArray.toList_eq, Bool.eq_iff_iff]
  simp
def TimR (w : World) (s : ByteArray) (e : Ending) (w' : World) : Prop := ∃ m ok, e = .returned (.tuple #[.int .i64 m, .bool ok]) ∧ (timesE s.data.toList = if ok then some m else none) ∧ Below w.heap.size w w'
section
variable {w : World}
theorem atoi_ok (s : ByteArray) (hs : s.size ≤ 65536) (v : Int) (h : Lib.atoiAll s.data.toList = .ok v) : Calls Tryd.prog 50 #[.string s] w fun e w' => e = .returned (.tuple #[.int .i64 v, .nilIface]) ∧ Below w.heap.size w w' := by
  refine (L_strconv_Atoi_ok s (by omega) v h w).mono ?_
  rintro e w' ⟨rfl, rfl | ⟨t, rfl⟩⟩
  · exact ⟨rfl, Below.refl _ _⟩
  · exact ⟨rfl, Joins.below_bytesWorld _ _ _ _ (Nat.le_refl _)⟩
theorem atoi_no (s : ByteArray) (hs : s.size ≤ 65536) (h : ∀ v, Lib.atoiAll s.data.toList ≠ .ok v) (hL : Lw w) : Calls Tryd.prog 50 #[.string s] w fun e w' => ∃ m t N, e = .returned (.tuple #[.int .i64 m, .iface t (.pointer (some ⟨N, 0, none⟩))]) ∧ Below w.heap.size w w' := by
  rcases hc : Lib.atoiAll s.data.toList with v | _ | _
  · exact absurd hc (h v)
  · obtain ⟨te, pe, h3⟩ := hL.syn
    refine (L_strconv_Atoi_syntax s (by omega) (hc.trans rfl) _ w h3 (.inr ⟨te, pe, rfl⟩)).mono ?_
    rintro e w' ⟨N, rfl, _, _, hb⟩
    exact ⟨_, _, N, rfl, hb⟩
  · obtain ⟨te, pe, h3⟩ := hL.rng
    refine (L_strconv_Atoi_range s (by omega) hc _ w h3 (.inr ⟨te, pe, rfl⟩)).mono ?_
    rintro e w' ⟨N, rfl, _, _, hb⟩
    exact ⟨_, _, N, rfl, hb⟩
set_option maxHeartbeats 2000000 in
theorem timesOf_any (s : ByteArray) (hs : s.size ≤ 65536) (hL : Lw w) : Calls Tryd.prog 39 #[.string s] w fun e w' => TimR w s e w' := by
  unfold TimR
  by_cases hok : ∃ v, Lib.atoiAll s.data.toList = .ok v
  · obtain ⟨v, hv⟩ := hok
    obtain ⟨v0, v1⟩ := atoi_in hv
    have HA := Lib.hid fun (w : World) => atoi_ok (w := w) s hs v hv
    have HI := Lib.hid fun (w : World) hL => itoa_any (w := w) v v0 v1 hL
    have hT : timesE s.data.toList = if 1 < v ∧ v ≤ 4096 ∧ digs v.toNat = s.data.toList then some v else none := by
      unfold timesE
      rw [hv]
    by_cases he : Lib.itoa v = s.data.toList
    · have e1 : ((bs (Lib.itoa v)).toList == s.toList) = true := by rw [list_bytes, bs_data, decide_eq_true_eq]; exact he
      by_cases h1 : 1 < v
      · have d1 : decide (1 < v) = true := decide_eq_true h1
        by_cases h2 : v ≤ 4096
        · have d2 : decide (v ≤ 4096) = true := decide_eq_true h2
          have HT : Hid (timesE s.data.toList = some v) := Lib.hid (by rw [hT, if_pos ⟨h1, h2, by rw [← itoa_eq v (by omega) (by omega)]; exact he⟩])
          clear hT hv h1 h2 v0 v1 he
          go_enter Tryd.func39, Tryd.ntmps39
          go_wp2_with fail
          go_at_call 50
          refine (HA.out _).mono ?_
          rintro e w1 ⟨rfl, hb_w1⟩
          obtain ⟨hc_w1, hf_w1⟩ := bcell hb_w1; have hs_w1 := hb_w1.size; (try simp only [World.size_alloc, World.size_setCell, World.size_drew, World.heap_drewN] at hs_w1)
          go_wp2_with fail
          go_at_call 42
          refine (HI.out _ (hL.later (by repeat (first | exact Below.refl _ _ | assumption | (refine below_drewN ?_ _) | (refine Below.drew ?_) | (refine Below.alloc ?_ (by first | omega | (simp; omega) | simp) _) | (refine Below.setCell ?_ (by first | omega | (simp; omega) | simp) _) | (refine below_trans ?_ (by assumption) (by first | omega | (simp; omega) | simp)))))).mono ?_
          rintro e w2 ⟨rfl, hb_w2⟩
          obtain ⟨hc_w2, hf_w2⟩ := bcell hb_w2; have hs_w2 := hb_w2.size; (try simp only [World.size_alloc, World.size_setCell, World.size_drew, World.heap_drewN] at hs_w2)
          go_wp2
          go_ret2
          exact ⟨v, true, rfl, HT.out, (by repeat (first | exact Below.refl _ _ | assumption | (refine below_drewN ?_ _) | (refine Below.drew ?_) | (refine Below.alloc ?_ (by first | omega | (simp; omega) | simp) _) | (refine Below.setCell ?_ (by first | omega | (simp; omega) | simp) _) | (refine below_trans ?_ (by assumption) (by first | omega | (simp; omega) | simp))))⟩
        · have d2 : decide (v ≤ 4096) = false := decide_eq_false h2
          have HT : Hid (timesE s.data.toList = none) := Lib.hid (by rw [hT, if_neg (fun h => h2 h.2.1)])
          clear hT hv h1 h2 v0 v1 he
          go_enter Tryd.func39, Tryd.ntmps39
          go_wp2_with fail
          go_at_call 50
          refine (HA.out _).mono ?_
          rintro e w1 ⟨rfl, hb_w1⟩
          obtain ⟨hc_w1, hf_w1⟩ := bcell hb_w1; have hs_w1 := hb_w1.size; (try simp only [World.size_alloc, World.size_setCell, World.size_drew, World.heap_drewN] at hs_w1)
          go_wp2_with fail
          go_at_call 42
          refine (HI.out _ (hL.later (by repeat (first | exact Below.refl _ _ | assumption | (refine below_drewN ?_ _) | (refine Below.drew ?_) | (refine Below.alloc ?_ (by first | omega | (simp; omega) | simp) _) | (refine Below.setCell ?_ (by first | omega | (simp; omega) | simp) _) | (refine below_trans ?_ (by assumption) (by first | omega | (simp; omega) | simp)))))).mono ?_
          rintro e w2 ⟨rfl, hb_w2⟩
          obtain ⟨hc_w2, hf_w2⟩ := bcell hb_w2; have hs_w2 := hb_w2.size; (try simp only [World.size_alloc, World.size_setCell, World.size_drew, World.heap_drewN] at hs_w2)
          go_wp2
          go_ret2
          exact ⟨v, false, rfl, HT.out, (by repeat (first | exact Below.refl _ _ | assumption | (refine below_drewN ?_ _) | (refine Below.drew ?_) | (refine Below.alloc ?_ (by first | omega | (simp; omega) | simp) _) | (refine Below.setCell ?_ (by first | omega | (simp; omega) | simp) _) | (refine below_trans ?_ (by assumption) (by first | omega | (simp; omega) | simp))))⟩
      · have d1 : decide (1 < v) = false := decide_eq_false h1
        have HT : Hid (timesE s.data.toList = none) := Lib.hid (by rw [hT, if_neg (fun h => h1 h.1)])
        clear hT hv h1 v0 v1 he
        go_enter Tryd.func39, Tryd.ntmps39
        go_wp2_with fail
        go_at_call 50
        refine (HA.out _).mono ?_
        rintro e w1 ⟨rfl, hb_w1⟩
        obtain ⟨hc_w1, hf_w1⟩ := bcell hb_w1; have hs_w1 := hb_w1.size; (try simp only [World.size_alloc, World.size_setCell, World.size_drew, World.heap_drewN] at hs_w1)
        go_wp2_with fail
        go_at_call 42
        refine (HI.out _ (hL.later (by repeat (first | exact Below.refl _ _ | assumption | (refine below_drewN ?_ _) | (refine Below.drew ?_) | (refine Below.alloc ?_ (by first | omega | (simp; omega) | simp) _) | (refine Below.setCell ?_ (by first | omega | (simp; omega) | simp) _) | (refine below_trans ?_ (by assumption) (by first | omega | (simp; omega) | simp)))))).mono ?_
        rintro e w2 ⟨rfl, hb_w2⟩
        obtain ⟨hc_w2, hf_w2⟩ := bcell hb_w2; have hs_w2 := hb_w2.size; (try simp only [World.size_alloc, World.size_setCell, World.size_drew, World.heap_drewN] at hs_w2)
        go_wp2
        go_ret2
        exact ⟨v, false, rfl, HT.out, (by repeat (first | exact Below.refl _ _ | assumption | (refine below_drewN ?_ _) | (refine Below.drew ?_) | (refine Below.alloc ?_ (by first | omega | (simp; omega) | simp) _) | (refine Below.setCell ?_ (by first | omega | (simp; omega) | simp) _) | (refine below_trans ?_ (by assumption) (by first | omega | (simp; omega) | simp))))⟩
    · have e1 : ((bs (Lib.itoa v)).toList == s.toList) = false := by rw [list_bytes, bs_data, decide_eq_false_iff_not]; exact he
      have HT : Hid (timesE s.data.toList = none) := Lib.hid (by
        rw [hT, if_neg]
        rintro ⟨h1, h2, h3⟩
        exact he (by rw [itoa_eq v (by omega) (by omega)]; exact h3))
      clear hT hv v0 v1 he
      go_enter Tryd.func39, Tryd.ntmps39
      go_wp2_with fail
      go_at_call 50
      refine (HA.out _).mono ?_
      rintro e w1 ⟨rfl, hb_w1⟩
      obtain ⟨hc_w1, hf_w1⟩ := bcell hb_w1; have hs_w1 := hb_w1.size; (try simp only [World.size_alloc, World.size_setCell, World.size_drew, World.heap_drewN] at hs_w1)
      go_wp2_with fail
      go_at_call 42
      refine (HI.out _ (hL.later (by repeat (first | exact Below.refl _ _ | assumption | (refine below_drewN ?_ _) | (refine Below.drew ?_) | (refine Below.alloc ?_ (by first | omega | (simp; omega) | simp) _) | (refine Below.setCell ?_ (by first | omega | (simp; omega) | simp) _) | (refine below_trans ?_ (by assumption) (by first | omega | (simp; omega) | simp)))))).mono ?_
      rintro e w2 ⟨rfl, hb_w2⟩
      obtain ⟨hc_w2, hf_w2⟩ := bcell hb_w2; have hs_w2 := hb_w2.size; (try simp only [World.size_alloc, World.size_setCell, World.size_drew, World.heap_drewN] at hs_w2)
      go_wp2
      go_ret2
      exact ⟨0, false, rfl, HT.out, (by repeat (first | exact Below.refl _ _ | assumption | (refine below_drewN ?_ _) | (refine Below.drew ?_) | (refine Below.alloc ?_ (by first | omega | (simp; omega) | simp) _) | (refine Below.setCell ?_ (by first | omega | (simp; omega) | simp) _) | (refine below_trans ?_ (by assumption) (by first | omega | (simp; omega) | simp))))⟩
  · have HA := Lib.hid fun (w : World) hL => atoi_no (w := w) s hs (fun v hv => hok ⟨v, hv⟩) hL
    have HT : Hid (timesE s.data.toList = none) := Lib.hid (by
      unfold timesE
      split
      · rename_i n hn
        exact absurd ⟨n, hn⟩ hok
      · rfl)
    clear hok
    go_enter Tryd.func39, Tryd.ntmps39
    go_wp2_with fail
    go_at_call 50
    refine (HA.out _ (hL.later (by repeat (first | exact Below.refl _ _ | assumption | (refine below_drewN ?_ _) | (refine Below.drew ?_) | (refine Below.alloc ?_ (by first | omega | (simp; omega) | simp) _) | (refine Below.setCell ?_ (by first | omega | (simp; omega) | simp) _) | (refine below_trans ?_ (by assumption) (by first | omega | (simp; omega) | simp)))))).mono ?_
    rintro e w1 ⟨m, t, N, rfl, hb_w1⟩
    obtain ⟨hc_w1, hf_w1⟩ := bcell hb_w1; have hs_w1 := hb_w1.size; (try simp only [World.size_alloc, World.size_setCell, World.size_drew, World.heap_drewN] at hs_w1)
    go_wp2
    go_ret2
    exact ⟨0, false, rfl, HT.out, (by repeat (first | exact Below.refl _ _ | assumption | (refine below_drewN ?_ _) | (refine Below.drew ?_) | (refine Below.alloc ?_ (by first | omega | (simp; omega) | simp) _) | (refine Below.setCell ?_ (by first | omega | (simp; omega) | simp) _) | (refine below_trans ?_ (by assumption) (by first | omega | (simp; omega) | simp))))⟩
end
end Go.Proofs.YtklbamkafldagaaDoor
