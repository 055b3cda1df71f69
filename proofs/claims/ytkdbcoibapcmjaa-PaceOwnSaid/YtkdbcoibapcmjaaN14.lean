/- Contracts of package pace: steps are done, where the pacer lies. -/
import Derived.Test.YtkdbcoibapcmjaaN12
namespace Go.Proofs.Ytkdbcoibapcmjaa
open Go.RowKit
set_option linter.unusedVariables false
set_option linter.unusedSimpArgs false
set_option maxRecDepth 100000

theorem take_all (l : List Nat) : l.take l.length = l := by simp
section
variable {w : World} {p : Pc} {b g B B0 : Nat} {S : Option Addr} {l : List Nat} (c cl : Nat)
set_option maxHeartbeats 4000000 in
theorem pworkN_any (hk : OkP p) (hon : p.on = true) (hb : PBox w b p (some ⟨g, 0, none⟩) c) (hO : Own w B (some ⟨g, 0, none⟩) p.ds) (hgb : g ≠ b) (hs : Row w B0 S l) (h0b : B0 ≤ b) (h0g : B0 ≤ g) (h0w : B0 ≤ w.heap.size) (hl : l.length ≤ 17592186044416) (hm : AllM l) :
    Calls Try.prog 41 #[.pointer (some ⟨b, 0, none⟩), .int .i64 (-1), .slice S l.length cl] w fun e w' => e = .returned (.tuple #[]) ∧ PBox w' b (wrk (-1) p l) (some ⟨g, 0, none⟩) c ∧ Off b g w w' ∧ Own w' B (some ⟨g, 0, none⟩) (wrk (-1) p l).ds := by
  have hgl : g < w.heap.size := by
    obtain ⟨g', e1, _, h, _⟩ := hO.at_ hk.len1
    injection e1 with e1; injection e1 with e1; omega
  have HK := Lib.hid hk
  have HON := Lib.hid hon
  have HM := Lib.hid hm
  have HW : Hid (∀ k, OkP (wrk (-1) p (l.take k))) := Lib.hid fun k => (wrk_ok hk hon (-1) _).1
  have HN : Hid (∀ k, k < l.length → wrk (-1) p (l.take (k + 1)) = wrkN (wrk (-1) p (l.take k)) (l.getD k 0)) := Lib.hid fun k h => by
    rw [wrk_take h]; rfl
  have HDS : Hid (∀ k, (wrk (-1) p (l.take k)).ds = p.ds) := Lib.hid fun k => by
    generalize l.take k = x
    clear hb hO hs hl hm HM HW HN HK HON hk hon
    induction x generalizing p with
    | nil => rfl
    | cons y x ih => exact (ih (p := wrk1 (-1) p y)).trans rfl
  have HE : Hid (wrk (-1) p (l.take l.length) = wrk (-1) p l) := Lib.hid (by rw [take_all])
  have HO := Lib.hid hO
  have hbl := hb.lt
  clear hk hon hm hO
  go_enter Try.func41, Try.ntmps41
  go_wp2_with fail
  go_loopw [11] (fun ii wr => ∃ k : Nat, ii = .int .i64 (k : Nat) ∧ k ≤ l.length ∧ Hid (PBox wr b (wrk (-1) p (l.take k)) (some ⟨g, 0, none⟩) c) ∧ Hid (Off b g w wr) ∧ Hid (Own wr B (some ⟨g, 0, none⟩) p.ds)) (fun ii _ => l.length - (intOf ii).toNat)
  case atStart => exact ⟨0, rfl, Nat.zero_le _, Lib.hid hb, Lib.hid (Off.refl _ _ _), HO⟩
  case round =>
    obtain ⟨k, rfl, hkl, HB, HF, HOW⟩ := hrel
    by_cases hlt : k < l.length
    · have hrr := hs.keep (w' := wr) fun x o hx => HF.out.cell x o (by omega) (by omega) (by omega)
      obtain ⟨sb, so, rfl, hsb, hcc⟩ := hrr.cellAt (k := k) hlt
      have i1 : (k : Int) < (l.length : Int) := by omega
      have i2 : (0 : Int) ≤ (k : Int) := by omega
      have hnm : l.getD k 0 ≤ 1099511627776 := by rw [getD_get _ _ hlt]; exact HM.out _ (List.getElem_mem hlt)
      have HN' := Lib.hid (HN.out k hlt)
      have hq := HW.out k
      obtain ⟨q, hqe⟩ : ∃ q, Hid (wrk (-1) p (l.take k) = q) := ⟨_, rfl⟩
      rw [hqe.out] at HB HN' hq
      generalize l.getD k 0 = n at *
      have hd := hq.done; have hcr := hq.credit
      have HC1 := Lib.hid fun (w : World) (x : Int) (hx : x = ((q.done + n : Nat) : Int)) => pcapped_int w hx (by unfold W64; omega)
      have HC2 := Lib.hid fun (w : World) (x : Int) (hx : x = ((q.credit + n : Nat) : Int)) => pcapped_int w hx (by unfold W64; omega)
      have hT := HB.out
      unfold PBox at hT
      clear hq hb hrr
      have hsbb : sb ≠ b := by omega
      have hlt2 := hT.lt
      obtain ⟨n0, n1, n2, n3, n4, n5, n6, n7, n8, n9, nf⟩ := id hT
      go_wp2_with fail
      go_at_call 45
      refine (HC1.out _ _ (by simp)).mono ?_
      rintro e w1 ⟨rfl, rfl⟩
      go_wp2_with fail
      go_at_call 45
      refine (HC2.out _ _ (by simp)).mono ?_
      rintro e w1 ⟨rfl, rfl⟩
      go_wp2
      go_roundw
      case rel => exact ⟨k + 1, by go_num, by omega, Lib.hid (by rw [HN'.out]; exact (hT.set7 _).set6 _), Lib.hid ((HF.out.trans (Off.set ⟨b, 7, none⟩ (.inl rfl) _)).trans (Off.set ⟨b, 6, none⟩ (.inl rfl) _)), Lib.hid ((HOW.out.off rfl (p := ⟨b, 7, none⟩) (show b ≠ g by omega) _).off rfl (p := ⟨b, 6, none⟩) (show b ≠ g by omega) _)⟩
      case measure => simp [intOf]; omega
    · obtain rfl : k = l.length := by omega
      go_wp2
      go_end0
      rw [← HE.out]
      exact ⟨rfl, HB.out, HF.out, by rw [HDS.out]; exact HOW.out⟩
end
end Go.Proofs.Ytkdbcoibapcmjaa
