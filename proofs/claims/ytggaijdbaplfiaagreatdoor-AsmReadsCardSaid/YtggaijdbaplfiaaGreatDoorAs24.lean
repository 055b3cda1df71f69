/- Contracts of package asm: Parse. -/
import Derived.Test.YtggaijdbaplfiaaGreatDoorAs23
import Derived.OwnWalk
namespace Go.Proofs.YtggaijdbaplfiaaGreatDoor
open Go.RowKit
set_option linter.unusedVariables false
set_option linter.unusedSimpArgs false
theorem owns_monoI {w : World} {B B' s n : Nat} {e : TypeId} {v : Value} {xs : List Value} (h : w.ownsRow B e s v n xs) (hB : B' ≤ B) : w.ownsRow B' e s v n xs := by
  obtain ⟨h0, h1 | ⟨g, c, cur, h1, h2, h3⟩⟩ := h
  · exact ⟨h0, .inl h1⟩
  · exact ⟨h0, .inr ⟨g, c, cur, h1, Nat.le_trans hB h2, h3⟩⟩
theorem tell_goal {o : Nat} {s : List UInt8} {c d : In × List UInt8} (h : tellO o s c = some d) (hc : c.2.length ≤ 32) : d.2.length ≤ 32 := by
  unfold tellO at h
  split at h
  · split at h
    · rename_i hl
      injection h with h
      subst h
      unfold isLab at hl
      simp only [Bool.and_eq_true, decide_eq_true_eq] at hl
      exact hl.1.2
    · cases h
  · split at h
    · cases h
    · split at h
      · cases h
      · split at h
        · injection h with h
          subst h
          exact hc
        · cases h
theorem tellL_goal : ∀ (os : List Nat) (ss : List (List UInt8)) (c d : In × List UInt8), tellL os ss c = some d → c.2.length ≤ 32 → d.2.length ≤ 32
  | [], _, c, d, h, hc => by
    simp only [tellL] at h
    injection h with h
    subst h
    exact hc
  | _ :: _, [], c, d, h, hc => by
    simp only [tellL] at h
    injection h with h
    subst h
    exact hc
  | o :: os, s :: ss, c, d, h, hc => by
    rw [tellL] at h
    split at h
    · cases h
    · rename_i c' hc'
      exact tellL_goal os ss c' d h (tell_goal hc' hc)
theorem parse_goal {s : List UInt8} {c : In × List UInt8} (h : parseS s = some c) : c.2.length ≤ 32 := by
  unfold parseS parseW at h
  split at h
  · cases h
  · split at h
    · split at h
      · cases h
      · rename_i c' hc'
        split at h
        · injection h with h
          subst h
          exact tellL_goal _ _ _ _ hc' (by simp)
        · cases h
    · cases h
theorem readL_step (s : List UInt8) (r : List (List UInt8)) (k : Nat) (lb : Lbs) (cs : Cms) : readL (s :: r) k lb cs = if (stepS s (k + 1) lb cs).1 = 0 then readL r (k + 1) (stepS s (k + 1) lb cs).2.1 (stepS s (k + 1) lb cs).2.2 else .inr (k + 1, (stepS s (k + 1) lb cs).1) := by
  rw [readL]
  unfold stepS
  by_cases h1 : s = []
  · rw [if_pos h1, if_pos h1]; rfl
  · rw [if_neg h1, if_neg h1]
    by_cases h2 : isDef s = true
    · rw [if_pos h2, if_pos h2]
      by_cases h3 : (lb.lookup (Lib.trimSuffix s [58])).isSome = true
      · rw [if_pos h3, if_pos h3]; rfl
      · rw [if_neg h3, if_neg h3]; rfl
    · rw [if_neg h2, if_neg h2]
      cases parseS s with
      | none => rfl
      | some c =>
        by_cases h4 : 256 ≤ cs.length
        · simp only [h4, if_true]; rfl
        · simp only [h4, if_false]; rfl
theorem stepS_ok {s : List UInt8} {k : Nat} {lb : Lbs} {cs : Cms} (hok : LbOk lb) (hcm : CmOk cs) (hc : cs.length ≤ 256) (hk : k ≤ 99999) (h0 : (stepS s k lb cs).1 = 0) : LbOk (stepS s k lb cs).2.1 ∧ CmOk (stepS s k lb cs).2.2 ∧ (stepS s k lb cs).2.2.length ≤ 256 ∧ (stepS s k lb cs).2.1.length ≤ lb.length + 1 := by
  unfold stepS at h0 ⊢
  by_cases h1 : s = []
  · rw [if_pos h1]; exact ⟨hok, hcm, hc, by simp⟩
  · rw [if_neg h1] at h0 ⊢
    by_cases h2 : isDef s = true
    · rw [if_pos h2] at h0 ⊢
      cases h3 : lb.lookup (Lib.trimSuffix s [58]) with
      | some p => rw [h3] at h0; simp at h0
      | none =>
        simp only [Option.isSome_none, Bool.false_eq_true, if_false]
        exact ⟨hok.snoc h3, hcm, hc, by simp⟩
    · rw [if_neg h2] at h0 ⊢
      cases hp : parseS s with
      | none => rw [hp] at h0; simp at h0
      | some c =>
        rw [hp] at h0
        by_cases h4 : 256 ≤ cs.length
        · simp [h4] at h0
        · simp only [h4, if_false]
          refine ⟨hok, fun d hd => ?_, by simp; omega, by simp⟩
          rw [List.mem_append, List.mem_singleton] at hd
          rcases hd with hd | rfl
          · exact hcm d hd
          · exact ⟨by have := parse_goal hp; simp only; omega, by simp only; omega⟩
section
variable {w : World}
set_option maxRecDepth 100000 in
set_option maxHeartbeats 16000000 in
theorem aparse_any (s : ByteArray) (hL : Lw w) : Calls Tryz.prog 8 #[.string s] w fun e w' => ProgR w (readP s.data.toList) e w' := by
  have hlen : s.data.toList.length = s.size := Array.length_toList
  by_cases hbig : 65536 < s.size
  · have d1 : decide (65536 < (s.size : Int)) = true := decide_eq_true (by omega)
    have hR : readP s.data.toList = ([], 0, 1) := by unfold readP; rw [if_pos (by omega)]
    have HR := Lib.hid hR
    clear hR
    generalize readP s.data.toList = RT at *
    go_enter Tryz.func8, Tryz.ntmps8
    go_wp2
    go_ret3
    exact progR_no HR.out (by repeat (first | exact Below.refl _ _ | assumption | (refine below_drewN ?_ _) | (refine Below.drew ?_) | (refine Below.alloc ?_ (by first | omega | (simp; omega) | simp) _) | (refine Below.setCell ?_ (by first | omega | (simp; omega) | simp) _) | (refine below_trans ?_ (by assumption) (by first | omega | (simp; omega) | simp)))) _ rfl
  · have d1 : decide (65536 < (s.size : Int)) = false := decide_eq_false (by omega)
    have hR : ∃ RR, readL ((Lib.split s.data.toList [10]).drop 0) 0 [] [] = RR ∧ readP s.data.toList = (match RR with
        | .inl (lb, cs) => progL lb cs []
        | .inr (i, e) => ([], i, e)) := ⟨_, rfl, by unfold readP; rw [if_neg (by omega)]; rfl⟩
    obtain ⟨RR, hRR, hRP⟩ := hR
    have HS := Lib.hid fun (w : World) hL => ssplit_any (w := w) 10 s (by omega) hL
    have HLE := Lib.hid (partsB_le 10 s)
    have HD := Lib.hid (parts_drop 10 s)
    have hN := partsB_most 10 s
    have HEND : Hid ((Lib.split s.data.toList [10]).drop (partsB 10 s).length = []) := Lib.hid (by
      rw [List.drop_eq_nil_iff, parts_length]
      exact Nat.le_refl _)
    have HRR := Lib.hid hRR
    have HPI : Hid (∀ lb cs, RR = .inl (lb, cs) → readP s.data.toList = progL lb cs []) := Lib.hid fun lb cs h => by rw [hRP, h]
    have HPE : Hid (∀ i e, RR = .inr (i, e) → readP s.data.toList = ([], i, e)) := Lib.hid fun i e h => by rw [hRP, h]
    have hmm := @run_makeMap Tryz.prog
    clear hRR hRP hlen
    generalize readP s.data.toList = RT at *
    generalize (Lib.split s.data.toList [10]) = LL at *
    generalize partsB 10 s = lines at *
    have hN2 : lines.length ≤ 65537 := by omega
    have hMW : Hid (LabM (w.alloc (.map #[] 0)) w.heap.size []) := Lib.hid (World.ownsMap_made _ _ _ _)
    go_enter Tryz.func8, Tryz.ntmps8
    go_wp2_with fail
    go_at_call 20
    refine (HS.out _ (hL.later (by repeat (first | exact Below.refl _ _ | assumption | (refine below_drewN ?_ _) | (refine Below.drew ?_) | (refine Below.alloc ?_ (by first | omega | (simp; omega) | simp) _) | (refine Below.setCell ?_ (by first | omega | (simp; omega) | simp) _) | (refine below_trans ?_ (by assumption) (by first | omega | (simp; omega) | simp)))))).mono ?_
    rintro e w2 ⟨rfl, hcl, hs12, hb_w2⟩
    obtain ⟨hc_w2, hf_w2⟩ := bcell hb_w2; have hz_w2_w_0 : w.heap.size < w2.heap.size := (by have hzz := hb_w2.size; (try simp only [World.size_alloc, World.size_setCell, World.size_drew, World.heap_drewN] at hzz); omega); have hz_w2_w_1 : w.heap.size + 1 < w2.heap.size := (by have hzz := hb_w2.size; (try simp only [World.size_alloc, World.size_setCell, World.size_drew, World.heap_drewN] at hzz); omega); have hs_w2 := hb_w2.size; (try simp only [World.size_alloc, World.size_setCell, World.size_drew, World.heap_drewN] at hs_w2)
    have b02 : Below w.heap.size w w2 := (by repeat (first | exact Below.refl _ _ | assumption | (refine below_drewN ?_ _) | (refine Below.drew ?_) | (refine Below.alloc ?_ (by first | omega | (simp; omega) | simp) _) | (refine Below.setCell ?_ (by first | omega | (simp; omega) | simp) _) | (refine below_trans ?_ (by assumption) (by first | omega | (simp; omega) | simp))))
    have hs02 := b02.size
    simp only [World.size_alloc] at hcl hs12
    have RD2 : RD w2 w2.heap.size (w.heap.size + 1) w.heap.size [] [] := by
      refine ⟨by omega, by omega, by omega, Nat.le_refl _, ?_, ?_, ?_, none, 0, ?_, World.ownsRow_nil _ _ _ _⟩
      · exact (hMW.out.later (Below.alloc (Below.refl _ _) (Nat.le_refl _) _)).later hb_w2
      · have h1 := fz_new (w.alloc (.map #[] 0)) #[.map (some w.heap.size), .slice none 0 0] 51
        simp only [World.size_alloc] at h1
        exact fz_later h1 hb_w2 (by simp)
      · exact ((bcell hb_w2).1 (w.heap.size + 1) 0 (by simp)).trans (by simp [go_sem])
      · exact ((bcell hb_w2).1 (w.heap.size + 1) 1 (by simp)).trans (by simp [go_sem])
    have HRD2 := Lib.hid RD2
    have HCL := Lib.hid hcl
    clear hcl RD2 hMW hmm hc_w2 hf_w2 hb_w2 hs_w2
    go_wp2_with fail
    go_loopw [17] (fun ii wr => ∃ (k : Nat) (lb : Lbs) (cs : Cms), ii = .int .i64 (k : Nat) ∧ k ≤ lines.length ∧ Hid (RD wr w2.heap.size (w.heap.size + 1) w.heap.size lb cs) ∧ Hid (LbOk lb ∧ CmOk cs ∧ cs.length ≤ 256 ∧ lb.length ≤ k) ∧ Hid (readL (LL.drop k) k lb cs = RR) ∧ Hid (Kp w.heap.size w2.heap.size (w.heap.size + 1) w.heap.size w2 wr)) (fun ii _ => lines.length - (intOf ii).toNat)
    case atStart => exact ⟨0, [], [], rfl, Nat.zero_le _, HRD2, Lib.hid ⟨by simp [LbOk], fun c hc => by simp at hc, by simp, by simp⟩, HRR, Lib.hid ⟨Below.refl _ _, fun _ _ _ _ => rfl⟩⟩
    case round =>
      clear HRD2 HRR
      obtain ⟨k, lb, cs, rfl, hk, HR, HO, HT, HK⟩ := hrel
      have hsr := HK.out.1.size
      have bwr : Below w.heap.size w wr := b02.trans HK.out.1
      have hLr := hL.later bwr
      by_cases hlt : k < lines.length
      · have hx : wr.cell? ⟨w.heap.size + 1 + 1, k, none⟩ = some (.string lines[k]) := (World.cell?_of_block (HK.out.2 (w.heap.size + 1 + 1) (by omega) (by omega) (by omega))).trans (HCL.out k hlt)
        have hd := HD.out k hlt
        have hxs := HLE.out k hlt
        have hrd := HT.out
        rw [hd, readL_step] at hrd
        have HRD := Lib.hid hrd
        obtain ⟨o1, o2, o3, o4⟩ := HO.out
        have hk0 : (0 : Int) ≤ (k : Int) := by omega
        have hk1 : (k : Int) < (lines.length : Int) := by omega
        have z1 : IntKind.i64.wrap ((k : Int) + 1) = ((k + 1 : Nat) : Int) := by unfold IntKind.wrap; simp [IntKind.signed, IntKind.bits]; omega
        generalize lines[k] = x at *
        have HC := Lib.hid (aread_any (w := wr) w.heap.size w2.heap.size (w.heap.size + 1) w.heap.size lb cs HR.out o1 (by omega) o3 (by omega) (Nat.le_refl _) x (by omega) (k + 1) hLr)
        have HSO := Lib.hid fun h0 => stepS_ok (s := x.data.toList) (k := k + 1) o1 o2 o3 (by omega) h0
        clear hd hrd HT o1 o2 o3 hxs
        go_wp2_with fail
        go_at_call 21
        refine HC.out.mono ?_
        rintro e w3 ⟨rfl, h3, hk3⟩
        have HK3 := Lib.hid (HK.out.trans hk3)
        by_cases h0 : (stepS x.data.toList (k + 1) lb cs).1 = 0
        · have e0 : ((stepS x.data.toList (k + 1) lb cs).1 == 0) = true := by simpa using h0
          have e1 : ((stepS x.data.toList (k + 1) lb cs).1 != 0) = false := by simp [h0]
          have HR3 := Lib.hid (h3 h0)
          obtain ⟨p1, p2, p3, p4⟩ := HSO.out h0
          have HO3 : Hid (LbOk (stepS x.data.toList (k + 1) lb cs).2.1 ∧ CmOk (stepS x.data.toList (k + 1) lb cs).2.2 ∧ (stepS x.data.toList (k + 1) lb cs).2.2.length ≤ 256 ∧ (stepS x.data.toList (k + 1) lb cs).2.1.length ≤ k + 1) := Lib.hid ⟨p1, p2, p3, by omega⟩
          have hrd := HRD.out
          rw [if_pos h0] at hrd
          have HT3 := Lib.hid hrd
          clear h3 hk3 hrd HRD p1 p2 p3 p4 HSO HC h0
          generalize (stepS x.data.toList (k + 1) lb cs).1 = er at *
          go_wp2
          go_roundw
          case rel => exact ⟨k + 1, _, _, by go_num, by omega, HR3, HO3, HT3, HK3⟩
          case measure => simp [intOf]; omega
        · have e0 : ((stepS x.data.toList (k + 1) lb cs).1 == 0) = false := by simpa using h0
          have e1 : ((stepS x.data.toList (k + 1) lb cs).1 != 0) = true := by simp [h0]
          have hrd := HRD.out
          rw [if_neg h0] at hrd
          have HT3 := Lib.hid (HPE.out _ _ hrd.symm)
          have b3 : Below w.heap.size w w3 := b02.trans HK3.out.1
          clear h3 hk3 hrd HRD HSO HC h0
          generalize (stepS x.data.toList (k + 1) lb cs).1 = er at *
          go_wp2
          go_ret3
          exact progR_no HT3.out b3 _ (by first | rfl | omega | (simp; omega))
      · obtain rfl : k = lines.length := by omega
        have hrd := HT.out
        rw [HEND.out, readL] at hrd
        obtain ⟨o1, o2, o3, o4⟩ := HO.out
        have HC := Lib.hid (aprogram_any (w := wr) w2.heap.size (w.heap.size + 1) w.heap.size lb cs HR.out o1 o2 o3)
        rw [← HPI.out _ _ hrd.symm] at HC
        clear hrd HT o1 o2 o3
        go_wp2_with fail
        go_at_call 22
        refine HC.out.mono ?_
        rintro e w3 ⟨A, cap, rfl, ho, hb_w3⟩
        have HO3 := Lib.hid ho
        have b3 : Below w.heap.size w w3 := below_trans bwr hb_w3 bwr.size
        have hsw := bwr.size
        clear ho hb_w3
        go_wp2
        go_ret3
        exact ⟨A, cap, rfl, owns_monoI HO3.out hsw, b3⟩
end
end Go.Proofs.YtggaijdbaplfiaaGreatDoor
