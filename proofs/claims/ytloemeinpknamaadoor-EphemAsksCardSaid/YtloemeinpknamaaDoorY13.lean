/- Contracts of the document's own answers for tables: the check. -/
import Derived.Test.YtloemeinpknamaaDoorY12
namespace Go.Proofs.YtloemeinpknamaaDoor
open Go.RowKit
set_option linter.unusedVariables false
set_option linter.unusedSimpArgs false

theorem dst_step {h i n j : Nat} (hh : h < n) (hi : i < n) (hj : j ≤ dst h i n) : dst ((h + j) % n) i n = dst h i n - j := by
  have hd := dst_lt (i := i) hh
  have ha := dst_at hh hi
  refine mod_inj (h := (h + j) % n) (Nat.mod_lt _ (by omega)) (dst_lt (Nat.mod_lt _ (by omega))) (by omega) ?_
  rw [dst_at (Nat.mod_lt _ (by omega)) hi, Nat.mod_add_mod, show h + j + (dst h i n - j) = h + dst h i n by omega, ha]
section
variable {w : World} {A : Option Addr} {l : List Es} (cap : Nat)
set_option maxRecDepth 100000 in
set_option maxHeartbeats 4000000 in
theorem excheck_any (hr : ERow w w.heap.size A l) (hl : l.length ≤ 5864062014805) (y : Int) (hY : (OkT l ∧ y = 0) ∨ (¬ OkT l ∧ y = 2)) :
    Calls Tryd.prog 25 #[eph A l.length cap] w fun e w' => e = .returned (.int .i64 y) ∧ Below w.heap.size w w' := by
  by_cases h0 : l.length = 0
  · obtain rfl : y = 0 := by
      rcases hY with h | ⟨h, _⟩
      · exact h.2
      · exact absurd (Or.inl h0) h
    have f0 : ((l.length : Int) == 0) = true := beq_iff_eq.2 (by omega)
    clear hY h0
    unfold eph
    go_enter Tryd.func25, Tryd.ntmps25
    go_wp2
    go_ret
    exact ⟨rfl, (by repeat (first | exact Below.refl _ _ | assumption | (refine below_drewN ?_ _) | (refine Below.drew ?_) | (refine Below.alloc ?_ (by first | omega | (simp; omega) | simp) _) | (refine Below.setCell ?_ (by first | omega | (simp; omega) | simp) _) | (refine below_trans ?_ (by assumption) (by first | omega | (simp; omega) | simp))))⟩
  have f0 : ((l.length : Int) == 0) = false := by rw [beq_eq_false_iff_ne]; omega
  by_cases hz : Sz l.length
  · have HM := Lib.hid fun (w : World) hr => exmany_any (w := w) (A := A) (l := l) cap 0 hr hl
    change Hid (∀ (w : World) (hr : ERow w w.heap.size A l), Calls Tryd.prog 34 #[eph A l.length cap, .int .u8 0] w fun e w' => e = .returned (.int .i64 (frees l : Nat)) ∧ Below w.heap.size w w') at HM
    have HH := Lib.hid fun (key : Nat) (w : World) => exhome_any key l.length hz w
    have HH0 := Lib.hid fun (w : World) => exhome_any 0 l.length hz w
    change Hid (∀ (w : World), Calls Tryd.prog 22 #[.int .u64 0, .int .i64 (l.length : Nat)] w fun e w' => e = .returned (.tuple #[.int .i64 (hm 0 l.length : Nat), .int .i64 0]) ∧ w = w') at HH0
    have hfl := frees_le l
    by_cases hfr : l.length ≤ 4 * frees l
    · as_aux_lemma =>
        have f1 : decide (4 * ((frees l : Nat) : Int) < (l.length : Int)) = false := decide_eq_false (by omega)
        have HF := Lib.hid fun (w : World) key hr => exfind_any (w := w) (A := A) (l := l) cap key hr hl
        have hl64 := hz.le
        have HY : Hid ((∀ i, i < l.length → xokS l i) → y = 0) := Lib.hid fun h => by
          rcases hY with h9 | ⟨h9, _⟩
          · exact h9.2
          · exact absurd (OkT.of_x hz h hfr) h9
        have HN : Hid (∀ i, i < l.length → ¬ xokS l i → y = 2) := Lib.hid fun i hi h => by
          rcases hY with ⟨h9, _⟩ | h9
          · exact absurd ((h9.x h0).2.1 i hi) h
          · exact h9.2
        have HHL := Lib.hid fun key => hm_lt key hz
        generalize hm 0 l.length = h00 at *
        generalize frees l = fr at *
        clear hY h0 hz hfr
        unfold eph at *
        go_enter Tryd.func25, Tryd.ntmps25
        go_wp2_with fail
        go_at_call 22
        refine (HH0.out _).mono ?_
        rintro e w0 ⟨rfl, rfl⟩
        go_wp2_with fail
        go_at_call 34
        refine (HM.out _ (hr.later (by repeat (first | exact Below.refl _ _ | assumption | (refine below_drewN ?_ _) | (refine Below.drew ?_) | (refine Below.alloc ?_ (by first | omega | (simp; omega) | simp) _) | (refine Below.setCell ?_ (by first | omega | (simp; omega) | simp) _) | (refine below_trans ?_ (by assumption) (by first | omega | (simp; omega) | simp)))))).mono ?_
        rintro e w1 ⟨rfl, hb_w1⟩
        obtain ⟨hc_w1, hf_w1⟩ := bcell hb_w1; have hz_w1_w_0 : w.heap.size < w1.heap.size := (by have hzz := hb_w1.size; (try simp only [World.size_alloc, World.size_setCell, World.size_drew, World.heap_drewN] at hzz); omega); have hs_w1 := hb_w1.size; (try simp only [World.size_alloc, World.size_setCell, World.size_drew, World.heap_drewN] at hs_w1)
        have b1 : Below w.heap.size w w1 := (by repeat (first | exact Below.refl _ _ | assumption | (refine below_drewN ?_ _) | (refine Below.drew ?_) | (refine Below.alloc ?_ (by first | omega | (simp; omega) | simp) _) | (refine Below.setCell ?_ (by first | omega | (simp; omega) | simp) _) | (refine below_trans ?_ (by assumption) (by first | omega | (simp; omega) | simp))))
        have kb1 : w1.cell? ⟨w.heap.size, 0, none⟩ = some (.slice A l.length cap) := (hc_w1 _ _ (by first | omega | (simp; omega) | simp)).trans (by simp [go_sem])
        clear hc_w1 hf_w1
        go_wp2_with fail
        go_loopw [32] (fun ii wr => ∃ k : Nat, ii = .int .i64 (k : Nat) ∧ k ≤ l.length ∧ Hid (∀ j, j < k → xokS l j) ∧ w.heap.size + 1 ≤ wr.heap.size ∧ wr.cell? ⟨w.heap.size, 0, none⟩ = some (.slice A l.length cap) ∧ Below w.heap.size w wr) (fun ii _ => l.length - (intOf ii).toNat)
        case atStart => exact ⟨0, rfl, Nat.zero_le _, Lib.hid (fun j hj => by omega), (by first | omega | (simp; omega) | simp), kb1, (by repeat (first | exact Below.refl _ _ | assumption | (refine below_drewN ?_ _) | (refine Below.drew ?_) | (refine Below.alloc ?_ (by first | omega | (simp; omega) | simp) _) | (refine Below.setCell ?_ (by first | omega | (simp; omega) | simp) _) | (refine below_trans ?_ (by assumption) (by first | omega | (simp; omega) | simp))))⟩
        case round =>
          clear kb1
          obtain ⟨k, rfl, hk, hA, hsz, kb, hb_wr⟩ := hrel
          have hsr := hb_wr.size
          have hz0 : w.heap.size < wr.heap.size := by omega
          by_cases hlt : k < l.length
          · have hrw := hr.later hb_wr
            obtain ⟨b, off, rfl, hbb, hc⟩ := hrw.at_ (by omega)
            have HC := Lib.hid hc
            obtain ⟨c0, c1, c2⟩ := hc k hlt
            have i1 : (k : Int) < (l.length : Int) := by omega
            have i2 : (0 : Int) ≤ (k : Int) := by omega
            have HY2 : xokS l k → Hid (∀ j, j < k + 1 → xokS l j) := fun h => Lib.hid fun j hj => by
              by_cases e : j = k
              · rw [e]; exact h
              · exact hA.out j (by omega)
            have HN2 := HN.out k hlt
            have HPT : Hid (pth l k = ∀ j, j < dst (hm (nthE l k).k l.length) k l.length → (nthE l ((hm (nthE l k).k l.length + j) % l.length)).s ≠ 0) := Lib.hid rfl
            unfold xokS at HY2 HN2
            clear hc
            generalize hs : nthE l k = s at *
            obtain ⟨ss, sk, sv⟩ := s
            simp only at c0 c1 c2 HY2 HN2 HPT
            clear hs
            by_cases h3 : 3 ≤ ss
            · obtain rfl := HN2 (by rintro ⟨⟨h, _⟩, _⟩; omega)
              have f2 : decide ((3 : Int) ≤ (ss : Int)) = true := decide_eq_true (by omega)
              clear HY2 HN2 h3
              go_wp2
              go_ret
              exact ⟨rfl, (by repeat (first | exact Below.refl _ _ | assumption | (refine below_drewN ?_ _) | (refine Below.drew ?_) | (refine Below.alloc ?_ (by first | omega | (simp; omega) | simp) _) | (refine Below.setCell ?_ (by first | omega | (simp; omega) | simp) _) | (refine below_trans ?_ (by assumption) (by first | omega | (simp; omega) | simp))))⟩
            have f2 : decide ((3 : Int) ≤ (ss : Int)) = false := decide_eq_false (by omega)
            have f2' : decide (3 ≤ ss) = false := decide_eq_false (by omega)
            by_cases h1 : ss = 1
            · subst h1
              by_cases hk0 : sk = 0
              · obtain rfl := HN2 (by rintro ⟨_, h⟩; exact (h rfl).1 hk0)
                subst hk0
                clear HY2 HN2
                go_wp2
                go_ret
                exact ⟨rfl, (by repeat (first | exact Below.refl _ _ | assumption | (refine below_drewN ?_ _) | (refine Below.drew ?_) | (refine Below.alloc ?_ (by first | omega | (simp; omega) | simp) _) | (refine Below.setCell ?_ (by first | omega | (simp; omega) | simp) _) | (refine below_trans ?_ (by assumption) (by first | omega | (simp; omega) | simp))))⟩
              have f3 : ((sk : Int) == 0) = false := by rw [beq_eq_false_iff_ne]; omega
              have HFK := Lib.hid fun w hr => HF.out w sk hr
              by_cases hf : xfd l sk = k
              · as_aux_lemma =>
                  rw [hf, toI_lt hlt] at HFK
                  have f4 : ((k : Int) != (k : Int)) = false := by simp
                  have HHK := Lib.hid (HH.out sk)
                  have hhl := HHL.out sk
                  have HY3 : pth l k → Hid (∀ j, j < k + 1 → xokS l j) := fun h => HY2 ⟨⟨by omega, fun h => absurd rfl h⟩, fun _ => ⟨hk0, hf, h⟩⟩
                  have HN3 : ¬ pth l k → y = 2 := fun h => HN2 fun h9 => h (h9.2 rfl).2.2
                  rw [HPT.out] at HY3 HN3
                  generalize hm sk l.length = h at *
                  have HY3 := Lib.hid HY3
                  have HN3 := Lib.hid HN3
                  have hd9 := dst_lt (h := h) (i := k) hhl
                  clear HY2 HN2 hf hk0 HPT
                  go_wp2_with fail
                  go_at_call 32
                  refine (HFK.out _ (hrw.later (by repeat (first | exact Below.refl _ _ | assumption | (refine below_drewN ?_ _) | (refine Below.drew ?_) | (refine Below.alloc ?_ (by first | omega | (simp; omega) | simp) _) | (refine Below.setCell ?_ (by first | omega | (simp; omega) | simp) _) | (refine below_trans ?_ (by assumption) (by first | omega | (simp; omega) | simp)))))).mono ?_
                  rintro e w2 ⟨rfl, hb_w2⟩
                  obtain ⟨hc_w2, hf_w2⟩ := bcell hb_w2; have hz_w2_wr_0 : wr.heap.size < w2.heap.size := (by have hzz := hb_w2.size; (try simp only [World.size_alloc, World.size_setCell, World.size_drew, World.heap_drewN] at hzz); omega); have hs_w2 := hb_w2.size; (try simp only [World.size_alloc, World.size_setCell, World.size_drew, World.heap_drewN] at hs_w2)
                  have kb2 : w2.cell? ⟨w.heap.size, 0, none⟩ = some (.slice (some ⟨b, off, none⟩) l.length cap) := (hc_w2 _ _ (by first | omega | (simp; omega) | simp)).trans (by first | exact kb | (exact (World.cell?_alloc_lt _ _ ⟨_, _, _⟩ (by first | omega | (simp; omega) | simp)).trans kb) | (exact (World.cell?_alloc_lt _ _ ⟨_, _, _⟩ (by first | omega | (simp; omega) | simp)).trans ((World.cell?_alloc_lt _ _ ⟨_, _, _⟩ (by first | omega | (simp; omega) | simp)).trans kb)) | (simp [go_sem, kb]; done))
                  have ks0 : w2.cell? ⟨wr.heap.size, 0, none⟩ = some (.int .u8 (1 : Nat)) := (hc_w2 _ _ (by first | omega | (simp; omega) | simp)).trans (by simp [go_sem])
                  have ks1 : w2.cell? ⟨wr.heap.size, 1, none⟩ = some (.int .u64 (sk : Nat)) := (hc_w2 _ _ (by first | omega | (simp; omega) | simp)).trans (by simp [go_sem])
                  clear hc_w2 hf_w2
                  go_wp2_with fail
                  go_at_call 22
                  refine (HHK.out _).mono ?_
                  rintro e w0 ⟨rfl, rfl⟩
                  have hb2 : Below wr.heap.size wr w2 := (by repeat (first | exact Below.refl _ _ | assumption | (refine below_drewN ?_ _) | (refine Below.drew ?_) | (refine Below.alloc ?_ (by first | omega | (simp; omega) | simp) _) | (refine Below.setCell ?_ (by first | omega | (simp; omega) | simp) _) | (refine below_trans ?_ (by assumption) (by first | omega | (simp; omega) | simp))))
                  have HC2 : Hid (∀ i, i < l.length → w2.cell? ⟨b, off + i * 3, none⟩ = some (.int .u8 ((nthE l i).s : Nat))) := Lib.hid fun i hi => (hb2.cell (p := ⟨b, off + i * 3, none⟩) hbb).trans (HC.out i hi).c0
                  generalize wr = wD at *
                  go_wp2_with fail
                  go_loop [8] (fun aa => ∃ j : Nat, aa = .int .i64 (((h + j) % l.length : Nat) : Int) ∧ j ≤ dst h k l.length ∧ Hid (∀ j', j' < j → (nthE l ((h + j') % l.length)).s ≠ 0)) (fun aa => dst (intOf aa).toNat k l.length)
                  case atStart => exact ⟨0, by rw [Nat.add_zero, Nat.mod_eq_of_lt hhl], Nat.zero_le _, Lib.hid fun j' hj => by omega⟩
                  case round =>
                    obtain ⟨j, rfl, hj, hB⟩ := hrel
                    have hp : (h + j) % l.length < l.length := Nat.mod_lt _ (by omega)
                    have hst := dst_step hhl hlt hj
                    by_cases he : (h + j) % l.length = k
                    · as_aux_lemma =>
                        have hjd : j = dst h k l.length := by
                          have h9 := dst_eq (n := l.length) (h := h) (r := j) hhl (by omega)
                          rw [he] at h9; omega
                        have HB2 := HY3.out (fun j' hj' => hB.out j' (by omega))
                        have f5 : ((((h + j) % l.length : Nat) : Int) != (k : Int)) = false := by rw [he]; simp
                        clear hst hjd
                        generalize (h + j) % l.length = p at *
                        clear he
                        go_wp2
                        go_roundw
                        case rel => exact ⟨k + 1, by go_num, by omega, HB2, (by first | omega | (simp; omega) | simp), kb2, (by repeat (first | exact Below.refl _ _ | assumption | (refine below_drewN ?_ _) | (refine Below.drew ?_) | (refine Below.alloc ?_ (by first | omega | (simp; omega) | simp) _) | (refine Below.setCell ?_ (by first | omega | (simp; omega) | simp) _) | (refine below_trans ?_ (by assumption) (by first | omega | (simp; omega) | simp))))⟩
                        case measure => simp [intOf]; omega
                    · as_aux_lemma =>
                        have f5 : ((((h + j) % l.length : Nat) : Int) != (k : Int)) = true := bne_iff_ne.2 (by omega)
                        have hjd : j < dst h k l.length := by
                          refine Classical.byContradiction fun hn => he ?_
                          rw [show j = dst h k l.length by omega]
                          exact dst_at hhl hlt
                        have hcs := HC2.out _ hp
                        have HE1 : Hid ((((h + j) % l.length : Nat) : Int) + 1 = ((((h + j) % l.length + 1 : Nat)) : Int)) := Lib.hid (by omega)
                        have hmm : ((h + j) % l.length + 1) % l.length = (h + (j + 1)) % l.length := by rw [Nat.mod_add_mod, Nat.add_assoc]
                        have HB3 : ((nthE l ((h + j) % l.length)).s ≠ 0) → Hid (∀ j', j' < j + 1 → (nthE l ((h + j') % l.length)).s ≠ 0) := fun h9 => Lib.hid fun j' hj' => by
                          by_cases e : j' = j
                          · rw [e]; exact h9
                          · exact hB.out j' (by omega)
                        have HN4 : (nthE l ((h + j) % l.length)).s = 0 → y = 2 := fun h9 => HN3.out fun hall => hall j hjd h9
                        have hst2 := dst_step (j := j + 1) hhl hlt (by omega)
                        rw [← hmm] at hst2
                        have hMM := Lib.hid hmm
                        have hst2 := Lib.hid hst2
                        have hst := Lib.hid hst
                        have hp2 : ((h + j) % l.length + 1) % l.length < l.length := Nat.mod_lt _ (by omega)
                        have e1 : ((((h + j) % l.length : Nat) : Int) + 1) % (l.length : Int) = ((((h + j) % l.length + 1) % l.length : Nat) : Int) := by simp
                        generalize ((h + j) % l.length + 1) % l.length = p2 at *
                        generalize (h + j) % l.length = p at *
                        generalize (nthE l p).s = x at *
                        have j1 : (p : Int) < (l.length : Int) := by omega
                        have j2 : (0 : Int) ≤ (p : Int) := by omega
                        clear hmm
                        by_cases hx : x = 0
                        · as_aux_lemma =>
                            obtain rfl := HN4 hx
                            subst hx
                            have hcs : w2.cell? ⟨b, off + p * 3, none⟩ = some (.int .u8 0) := hcs
                            clear HB3 HN4 he
                            go_wp2
                            go_ret
                            exact ⟨rfl, (by repeat (first | exact Below.refl _ _ | assumption | (refine below_drewN ?_ _) | (refine Below.drew ?_) | (refine Below.alloc ?_ (by first | omega | (simp; omega) | simp) _) | (refine Below.setCell ?_ (by first | omega | (simp; omega) | simp) _) | (refine below_trans ?_ (by assumption) (by first | omega | (simp; omega) | simp))))⟩
                        · as_aux_lemma =>
                            have HB4 := HB3 hx
                            have f6 : ((x : Int) == 0) = false := by rw [beq_eq_false_iff_ne]; omega
                            clear HB3 HN4 he hx
                            go_wp2
                            go_round
                            case rel => exact ⟨j + 1, by rw [e1, hMM.out], by omega, HB4⟩
                            case measure => simp only [intOf]; rw [e1, Int.toNat_natCast, Int.toNat_natCast, hst.out, hst2.out]; omega
              · as_aux_lemma =>
                  obtain rfl := HN2 (by rintro ⟨_, h⟩; exact hf (h rfl).2.1)
                  have f4 : (toI l.length (xfd l sk) != (k : Int)) = true := by
                    unfold toI
                    split
                    · simp; omega
                    · simp
                  generalize toI l.length (xfd l sk) = t at *
                  clear HY2 HN2 hf hk0
                  go_wp2_with fail
                  go_at_call 32
                  refine (HFK.out _ (hrw.later (by repeat (first | exact Below.refl _ _ | assumption | (refine below_drewN ?_ _) | (refine Below.drew ?_) | (refine Below.alloc ?_ (by first | omega | (simp; omega) | simp) _) | (refine Below.setCell ?_ (by first | omega | (simp; omega) | simp) _) | (refine below_trans ?_ (by assumption) (by first | omega | (simp; omega) | simp)))))).mono ?_
                  rintro e w2 ⟨rfl, hb_w2⟩
                  obtain ⟨hc_w2, hf_w2⟩ := bcell hb_w2; have hz_w2_wr_0 : wr.heap.size < w2.heap.size := (by have hzz := hb_w2.size; (try simp only [World.size_alloc, World.size_setCell, World.size_drew, World.heap_drewN] at hzz); omega); have hs_w2 := hb_w2.size; (try simp only [World.size_alloc, World.size_setCell, World.size_drew, World.heap_drewN] at hs_w2)
                  clear hc_w2 hf_w2
                  go_wp2
                  go_ret
                  exact ⟨rfl, (by repeat (first | exact Below.refl _ _ | assumption | (refine below_drewN ?_ _) | (refine Below.drew ?_) | (refine Below.alloc ?_ (by first | omega | (simp; omega) | simp) _) | (refine Below.setCell ?_ (by first | omega | (simp; omega) | simp) _) | (refine below_trans ?_ (by assumption) (by first | omega | (simp; omega) | simp))))⟩
            · as_aux_lemma =>
                have g1 : ((ss : Int) != 1) = true := by simp; omega
                have g1' : ((ss : Int) == 1) = false := by rw [beq_eq_false_iff_ne]; omega
                by_cases hk0 : sk = 0
                · by_cases hv0 : sv = 0
                  · have HB2 := HY2 ⟨⟨by omega, fun _ => ⟨hk0, hv0⟩⟩, fun h => absurd h h1⟩
                    subst hk0 hv0
                    clear HY2 HN2 h1
                    go_wp2
                    go_roundw
                    case rel => exact ⟨k + 1, by go_num, by omega, HB2, (by first | omega | (simp; omega) | simp), (by first | exact kb | (exact (World.cell?_alloc_lt _ _ ⟨_, _, _⟩ (by first | omega | (simp; omega) | simp)).trans kb) | (exact (World.cell?_alloc_lt _ _ ⟨_, _, _⟩ (by first | omega | (simp; omega) | simp)).trans ((World.cell?_alloc_lt _ _ ⟨_, _, _⟩ (by first | omega | (simp; omega) | simp)).trans kb)) | (simp [go_sem, kb]; done)), (by repeat (first | exact Below.refl _ _ | assumption | (refine below_drewN ?_ _) | (refine Below.drew ?_) | (refine Below.alloc ?_ (by first | omega | (simp; omega) | simp) _) | (refine Below.setCell ?_ (by first | omega | (simp; omega) | simp) _) | (refine below_trans ?_ (by assumption) (by first | omega | (simp; omega) | simp))))⟩
                    case measure => simp [intOf]; omega
                  · obtain rfl := HN2 (by rintro ⟨⟨_, h⟩, _⟩; exact hv0 (h h1).2)
                    subst hk0
                    have g2 : ((sv : Int) != 0) = true := by simp; omega
                    have g2' : ((sv : Int) == 0) = false := by rw [beq_eq_false_iff_ne]; omega
                    clear HY2 HN2 h1 hv0
                    go_wp2
                    go_ret
                    exact ⟨rfl, (by repeat (first | exact Below.refl _ _ | assumption | (refine below_drewN ?_ _) | (refine Below.drew ?_) | (refine Below.alloc ?_ (by first | omega | (simp; omega) | simp) _) | (refine Below.setCell ?_ (by first | omega | (simp; omega) | simp) _) | (refine below_trans ?_ (by assumption) (by first | omega | (simp; omega) | simp))))⟩
                · obtain rfl := HN2 (by rintro ⟨⟨_, h⟩, _⟩; exact hk0 (h h1).1)
                  have g2 : ((sk : Int) != 0) = true := by simp; omega
                  have g2' : ((sk : Int) == 0) = false := by rw [beq_eq_false_iff_ne]; omega
                  clear HY2 HN2 h1 hk0
                  go_wp2
                  go_ret
                  exact ⟨rfl, (by repeat (first | exact Below.refl _ _ | assumption | (refine below_drewN ?_ _) | (refine Below.drew ?_) | (refine Below.alloc ?_ (by first | omega | (simp; omega) | simp) _) | (refine Below.setCell ?_ (by first | omega | (simp; omega) | simp) _) | (refine below_trans ?_ (by assumption) (by first | omega | (simp; omega) | simp))))⟩
          · obtain rfl := HY.out fun i hi => hA.out i (by omega)
            go_wp2
            go_ret
            exact ⟨rfl, (by repeat (first | exact Below.refl _ _ | assumption | (refine below_drewN ?_ _) | (refine Below.drew ?_) | (refine Below.alloc ?_ (by first | omega | (simp; omega) | simp) _) | (refine Below.setCell ?_ (by first | omega | (simp; omega) | simp) _) | (refine below_trans ?_ (by assumption) (by first | omega | (simp; omega) | simp))))⟩
    · have f1 : decide (4 * ((frees l : Nat) : Int) < (l.length : Int)) = true := decide_eq_true (by omega)
      obtain rfl : y = 2 := by
        rcases hY with ⟨h9, _⟩ | h9
        · exact absurd (h9.x h0).2.2 hfr
        · exact h9.2
      generalize hm 0 l.length = h00 at *
      generalize frees l = fr at *
      clear hY h0 hz hfr
      unfold eph at *
      go_enter Tryd.func25, Tryd.ntmps25
      go_wp2_with fail
      go_at_call 22
      refine (HH0.out _).mono ?_
      rintro e w0 ⟨rfl, rfl⟩
      go_wp2_with fail
      go_at_call 34
      refine (HM.out _ (hr.later (by repeat (first | exact Below.refl _ _ | assumption | (refine below_drewN ?_ _) | (refine Below.drew ?_) | (refine Below.alloc ?_ (by first | omega | (simp; omega) | simp) _) | (refine Below.setCell ?_ (by first | omega | (simp; omega) | simp) _) | (refine below_trans ?_ (by assumption) (by first | omega | (simp; omega) | simp)))))).mono ?_
      rintro e w1 ⟨rfl, hb_w1⟩
      obtain ⟨hc_w1, hf_w1⟩ := bcell hb_w1; have hz_w1_w_0 : w.heap.size < w1.heap.size := (by have hzz := hb_w1.size; (try simp only [World.size_alloc, World.size_setCell, World.size_drew, World.heap_drewN] at hzz); omega); have hs_w1 := hb_w1.size; (try simp only [World.size_alloc, World.size_setCell, World.size_drew, World.heap_drewN] at hs_w1)
      go_wp2
      go_ret
      exact ⟨rfl, (by repeat (first | exact Below.refl _ _ | assumption | (refine below_drewN ?_ _) | (refine Below.drew ?_) | (refine Below.alloc ?_ (by first | omega | (simp; omega) | simp) _) | (refine Below.setCell ?_ (by first | omega | (simp; omega) | simp) _) | (refine below_trans ?_ (by assumption) (by first | omega | (simp; omega) | simp))))⟩
  · obtain rfl : y = 2 := by
      rcases hY with ⟨h9, _⟩ | h9
      · exact absurd (h9.x h0).1 hz
      · exact h9.2
    have HH0 := Lib.hid fun (w : World) => exhome_no 0 (l.length : Int) (by unfold Sz at hz; omega) w
    change Hid (∀ (w : World), Calls Tryd.prog 22 #[.int .u64 0, .int .i64 (l.length : Nat)] w fun e w' => e = .returned (.tuple #[.int .i64 0, .int .i64 1]) ∧ w = w') at HH0
    clear hY h0 hz
    unfold eph
    go_enter Tryd.func25, Tryd.ntmps25
    go_wp2_with fail
    go_at_call 22
    refine (HH0.out _).mono ?_
    rintro e w0 ⟨rfl, rfl⟩
    go_wp2
    go_ret
    exact ⟨rfl, (by repeat (first | exact Below.refl _ _ | assumption | (refine below_drewN ?_ _) | (refine Below.drew ?_) | (refine Below.alloc ?_ (by first | omega | (simp; omega) | simp) _) | (refine Below.setCell ?_ (by first | omega | (simp; omega) | simp) _) | (refine below_trans ?_ (by assumption) (by first | omega | (simp; omega) | simp))))⟩
end
end Go.Proofs.YtloemeinpknamaaDoor
