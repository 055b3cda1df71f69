/- Contracts of package pace: steps of a mutator are done, where the pacer lies. -/
import Derived.Test.YtkdbcoibapcmjaaN14
namespace Go.Proofs.Ytkdbcoibapcmjaa
open Go.RowKit
set_option linter.unusedVariables false
set_option linter.unusedSimpArgs false
set_option maxRecDepth 100000

section
variable {w : World} {p : Pc} {b g B B0 : Nat} {S : Option Addr} {l : List Nat} (c cl : Nat)
set_option maxHeartbeats 4000000 in
theorem pworkK_any (hk : OkP p) (hon : p.on = true) (hb : PBox w b p (some ⟨g, 0, none⟩) c) (hO : Own w B (some ⟨g, 0, none⟩) p.ds) (hgb : g ≠ b) (hs : Row w B0 S l) (h0b : B0 ≤ b) (h0g : B0 ≤ g) (h0w : B0 ≤ w.heap.size) (hl : l.length ≤ 17592186044416) (hm : AllM l) (m : Nat) (hml : m < p.ds.length) (hcap : p.ds.length ≤ c) :
    Calls Try.prog 41 #[.pointer (some ⟨b, 0, none⟩), .int .i64 (m : Nat), .slice S l.length cl] w fun e w' => e = .returned (.tuple #[]) ∧ PBox w' b (wrk (m : Int) p l) (some ⟨g, 0, none⟩) c ∧ Off b g w w' ∧ Own w' B (some ⟨g, 0, none⟩) (wrk (m : Int) p l).ds := by
  have hgl : g < w.heap.size := by
    obtain ⟨g', e1, _, h, _⟩ := hO.at_ hk.len1
    injection e1 with e1; injection e1 with e1; omega
  have HK := Lib.hid hk
  have HON := Lib.hid hon
  have HM := Lib.hid hm
  have HW : Hid (∀ k, OkP (wrk (m : Int) p (l.take k))) := Lib.hid fun k => (wrk_ok hk hon (m : Int) _).1
  have HN : Hid (∀ k, k < l.length → wrk (m : Int) p (l.take (k + 1)) = wrkK (wrk (m : Int) p (l.take k)) m (l.getD k 0)) := Lib.hid fun k h => by
    rw [wrk_take h]; unfold wrk1; rw [if_neg (by omega)]; simp
  have HDL : Hid (∀ k, (wrk (m : Int) p (l.take k)).ds.length = p.ds.length) := Lib.hid fun k => (wrk_ok hk hon (m : Int) _).2.2
  have HE : Hid (wrk (m : Int) p (l.take l.length) = wrk (m : Int) p l) := Lib.hid (by rw [take_all])
  have HO := Lib.hid hO
  have hbl := hb.lt
  clear hk hon hm hO
  go_enter Try.func41, Try.ntmps41
  go_wp2_with fail
  go_loopw [11] (fun ii wr => ∃ k : Nat, ii = .int .i64 (k : Nat) ∧ k ≤ l.length ∧ Hid (PBox wr b (wrk (m : Int) p (l.take k)) (some ⟨g, 0, none⟩) c) ∧ Hid (Off b g w wr) ∧ Hid (Own wr B (some ⟨g, 0, none⟩) (wrk (m : Int) p (l.take k)).ds)) (fun ii _ => l.length - (intOf ii).toNat)
  case atStart => exact ⟨0, rfl, Nat.zero_le _, Lib.hid hb, Lib.hid (Off.refl _ _ _), HO⟩
  case round =>
    obtain ⟨k, rfl, hkl, HB, HF, HOW⟩ := hrel
    by_cases hlt : k < l.length
    · have hrr := hs.keep (w' := wr) fun x o hx => HF.out.cell x o (by omega) (by omega) (by omega)
      obtain ⟨sb, so, rfl, hsb, hcc⟩ := hrr.cellAt (k := k) hlt
      have i1 : (k : Int) < (l.length : Int) := by omega
      have i2 : (0 : Int) ≤ (k : Int) := by omega
      have hnm : l.getD k 0 ≤ 1099511627776 := by rw [getD_get _ _ hlt]; exact HM.out _ (List.getElem_mem hlt)
      have HN' := Lib.hid (HN.out k hlt)
      have hq := HW.out k
      obtain ⟨q, hqe⟩ : ∃ q, Hid (wrk (m : Int) p (l.take k) = q) := ⟨_, rfl⟩
      have hql := HDL.out k
      rw [hqe.out] at HB HN' hq HOW hql
      generalize l.getD k 0 = n at *
      have hd := hq.done; have hcr := hq.credit
      have HC1 := Lib.hid fun (w : World) (x : Int) (hx : x = ((q.done + n : Nat) : Int)) => pcapped_int w hx (by unfold W64; omega)
      have HO2 := HOW.out
      obtain ⟨g', e1, hBg, hgw, hgc⟩ := HO2.at_ (by omega)
      obtain rfl : g = g' := by injection e1 with e1; injection e1
      obtain ⟨k0, kf⟩ := hgc m (by omega)
      have hdm : q.ds.getD m 0 ≤ 1099511627776 := by rw [getD_get _ _ (by omega)]; exact hq.ds _ (List.getElem_mem _)
      obtain ⟨d, hd2⟩ : ∃ d, Hid (q.ds.getD m 0 = d) := ⟨_, rfl⟩
      have HQK : Hid (wrkK q m n = ⟨q.pct, q.least, q.live, q.on, q.est, q.room, cp (q.credit + (n - min n d)), cp (q.done + n), q.made, q.ds.set m (d - min n d)⟩) := Lib.hid (by rw [← hd2.out]; rfl)
      rw [hd2.out] at k0 hdm
      have HC2 := Lib.hid fun (w : World) (x : Int) (hx : x = ((q.credit + (n - min n d) : Nat) : Int)) => pcapped_int w hx (by unfold W64; omega)
      have j1 : (m : Int) < (q.ds.length : Int) := by omega
      have j2 : (0 : Int) ≤ (m : Int) := by omega
      have j3 : ((m : Int) != -1) = true := by simp
      have HQL := Lib.hid hql
      have lcap : q.ds.length ≤ c := by omega
      clear hgc e1 hql hml hcap
      have hT := HB.out
      unfold PBox at hT
      clear hq hb hrr
      have hsbb : sb ≠ b := by omega
      have hlt2 := hT.lt
      obtain ⟨n0, n1, n2, n3, n4, n5, n6, n7, n8, n9, nf⟩ := id hT
      go_wp2_with fail
      go_at_call 45
      refine (HC1.out _ _ (by simp)).mono ?_
      rintro e w1 ⟨rfl, rfl⟩
      go_wp2_with fail
      all_goals
        go_at_call 45
        refine (HC2.out _ _ (by omega)).mono ?_
        rintro e w1 ⟨rfl, rfl⟩
        go_wp2
        go_roundw
        case rel =>
          refine ⟨k + 1, by go_num, by omega, Lib.hid ?_, Lib.hid (((HF.out.trans (Off.set ⟨b, 7, none⟩ (.inl rfl) _)).trans (Off.set ⟨g, m, none⟩ (.inr rfl) _)).trans (Off.set ⟨b, 6, none⟩ (.inl rfl) _)), Lib.hid ?_⟩
          · rw [HN'.out, HQK.out]
            unfold PBox
            simp only [List.length_set]
            exact ((hT.set7 _).far (p := ⟨g, m, none⟩) hgb _).set6 _
          · rw [HN'.out, HQK.out]
            exact ((HO2.off rfl (p := ⟨b, 7, none⟩) (show b ≠ g by omega) _).seti rfl (by omega) (by omega) (by unfold W64; omega)).off rfl (p := ⟨b, 6, none⟩) (show b ≠ g by omega) _
        case measure => simp [intOf]; omega
    · obtain rfl : k = l.length := by omega
      go_wp2
      go_end0
      rw [← HE.out]
      exact ⟨rfl, HB.out, HF.out, HOW.out⟩
end
end Go.Proofs.Ytkdbcoibapcmjaa
