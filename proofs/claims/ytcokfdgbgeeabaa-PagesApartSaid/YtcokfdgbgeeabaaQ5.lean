/- The walk of the law PagesApart. -/
import Derived.Test.YtcokfdgbgeeabaaQ2
import Derived.Test.YtcokfdgbgeeabaaInts
namespace Go.Proofs.Ytcokfdgbgeeabaa
open Go.RowKit
set_option linter.unusedVariables false
set_option linter.unusedSimpArgs false

/-- whose pages are free is nobody's -/
def Nobody (n : Nat) (us : List Nat) (ys : List Int) : Prop := ∀ j, j < n → tb us j = false → ys.getD j 0 = 0

theorem and_one (x k : Nat) (hx : x < W64) : (bits .and .u64 ((x : Int) / 2 ^ k) 1 == 1) = x.testBit k := by
  have e : (x : Int) / 2 ^ k = ((x / 2 ^ k : Nat) : Int) := by simp
  have hlt : x / 2 ^ k < 2 ^ 64 := Nat.lt_of_le_of_lt (Nat.div_le_self _ _) (by unfold W64 at hx; omega)
  have h := u64_and_nat (x / 2 ^ k) 1 hlt (by decide)
  rw [e, show bits .and .u64 ((x / 2 ^ k : Nat) : Int) 1 = ((x / 2 ^ k &&& 1 : Nat) : Int) from h, Nat.and_one_is_mod, Nat.testBit_eq_decide_div_mod_eq]
  generalize x / 2 ^ k % 2 = y
  rw [Bool.eq_iff_iff]
  simp only [beq_iff_eq, decide_eq_true_eq]
  omega
theorem Two.off {w : World} {g : Nat} {u0 u1 : Value} (h : Two w g u0 u1) {p : Addr} (hp : p.block ≠ g) (v : Value) : Two (w.setCell p v) g u0 u1 :=
  ⟨(World.cell?_setCell_other _ _ _ _ (by rintro rfl; exact hp rfl)).trans h.c0, (World.cell?_setCell_other _ _ _ _ (by rintro rfl; exact hp rfl)).trans h.c1, fun i => by rw [World.frozen?_setCell]; exact h.fr i⟩
/-- pages of a call's own, of so many words -/
def FreshTL (w : World) (L : Nat) (n : Int) (ws : List Nat) (i why : Int) (e : Ending) (w' : World) : Prop :=
  ∃ A cap, e = .returned (.tuple #[.agg #[.int .i64 n, .slice A L cap], .int .i64 i, .int .i64 why]) ∧ Own w' w.heap.size A ws ∧ Below w.heap.size w w'
theorem FreshT.len {w : World} {n : Int} {ws : List Nat} {i why : Int} {e : Ending} {w' : World} (h : FreshT w n ws i why e w') {L : Nat} (hL : ws.length = L) : FreshTL w L n ws i why e w' := by
  subst hL
  exact h
/-- a run is taken, or not -/
theorem ptake_next (n : Nat) (x : Int) (us : List Nat) (L : Nat) (hL : us.length = L) (h : Right (n : Nat) us) (h63 : x ≤ 9223372036854775807) :
    (∃ why : Int, (why != 0) = true ∧ ∃ (N : Int) (vs : List Nat), ∀ (w : World) (A : Option Addr) (cap : Nat), Row w w.heap.size A us → Calls Try.prog 11 #[.agg #[.int .i64 (n : Nat), .slice A L cap], .int .i64 x] w fun e w' => FreshT w N vs 0 why e w') ∨
    (∃ (a c : Nat) (vs : List Nat), x = (c : Nat) ∧ 1 ≤ c ∧ a + c ≤ n ∧ vs.length = L ∧ Right (n : Nat) vs ∧ FitAt us a c ∧ (∀ j, tb vs j = if a ≤ j ∧ j < a + c then true else tb us j) ∧ countTo vs n = countTo us n + c ∧
      ∀ (w : World) (A : Option Addr) (cap : Nat), Row w w.heap.size A us → Calls Try.prog 11 #[.agg #[.int .i64 (n : Nat), .slice A L cap], .int .i64 x] w fun e w' => FreshTL w L (n : Nat) vs (a : Nat) 0 e w') := by
  subst hL
  rcases ptake_any (n : Nat) x us h63 with ⟨why, hy, _, _, N', us', T⟩ | ⟨i, _, h1, hf, _, T⟩
  · exact .inl ⟨why, by simpa using hy, N', us', T⟩
  · obtain ⟨f0, f1⟩ := hf.zero
    have hfit : FitAt us i.toNat x.toNat := by
      rcases hf with ⟨_, _, _, h3, _⟩ | ⟨h3, _⟩
      · exact h3
      · cases h3
    have hl := h.long
    refine .inr ⟨i.toNat, x.toNat, fillW us i.toNat x.toNat true, by omega, by omega, by omega, length_fillW _ _ _ _, right_fillW h _ _ _ (by omega), hfit, fun j => tb_fillW _ _ _ _ _ (by omega), countTo_fill _ _ _ _ (by omega) (by omega) hfit, fun w A cap hr => (T w A cap hr).mono fun e w' hh => ?_⟩
    rw [show ((i.toNat : Nat) : Int) = i by omega]
    exact hh.len (length_fillW _ _ _ _)

set_option maxRecDepth 100000 in
set_option maxHeartbeats 8000000 in
theorem pagesApart_main (n : Nat) (A C : Option Addr) (cap cc : Nat) (ws : List Nat) (xs : List Int) (w : World) (hr : Row w w.heap.size A ws) (hq : IRow w w.heap.size C xs) (hxl : xs.length ≤ 17592186044416) (h : Right (n : Nat) ws) :
    Calls Try.prog 6 #[.agg #[.int .i64 (n : Nat), .slice A ws.length cap], .slice C xs.length cc] w fun e w' => e = .returned (.bool true) ∧ Below w.heap.size w w' := by
  have hn2 := h.2.1
  have hl := h.long
  have hl2 := right_len h
  have hmk := run_make_ints n (by omega)
  have HR := Lib.hid h
  clear h
  go_enter Try.func6, Try.ntmps6
  go_wp2_with fail
  go_at_call 15
  refine (plives_any _).mono ?_
  rintro e w1 ⟨rfl, hb_w1⟩
  obtain ⟨hc_w1, hf_w1⟩ := bcell hb_w1; have hz_w1_w_0 : w.heap.size < w1.heap.size := (by have hzz := hb_w1.size; (try simp only [World.size_alloc, World.size_setCell, World.size_drew, World.heap_drewN] at hzz); omega); have hs_w1 := hb_w1.size; (try simp only [World.size_alloc, World.size_setCell, World.size_drew, World.heap_drewN] at hs_w1)
  go_wp2_with fail
  go_at_call 23
  refine (pcheck_ok _ (hr.later (by repeat (first | exact Below.refl _ _ | assumption | (refine below_drewN ?_ _) | (refine Below.drew ?_) | (refine Below.alloc ?_ (by first | omega | (simp; omega) | simp) _) | (refine Below.setCell ?_ (by first | omega | (simp; omega) | simp) _) | (refine below_trans ?_ (by assumption) (by first | omega | (simp; omega) | simp))))) HR.out).mono ?_
  rintro e w2 ⟨rfl, hb_w2⟩
  obtain ⟨hc_w2, hf_w2⟩ := bcell hb_w2; have hz_w2_w_0 : w.heap.size < w2.heap.size := (by have hzz := hb_w2.size; (try simp only [World.size_alloc, World.size_setCell, World.size_drew, World.heap_drewN] at hzz); omega); have hs_w2 := hb_w2.size; (try simp only [World.size_alloc, World.size_setCell, World.size_drew, World.heap_drewN] at hs_w2)
  have t2 : Two w2 w.heap.size (.int .i64 (n : Nat)) (.slice A ws.length cap) := ((Two.new w _ _ _).below hb_w1 (by first | omega | (simp; omega) | simp)).below hb_w2 (by first | omega | (simp; omega) | simp)
  have hb2 : Below w.heap.size w w2 := (by repeat (first | exact Below.refl _ _ | assumption | (refine below_drewN ?_ _) | (refine Below.drew ?_) | (refine Below.alloc ?_ (by first | omega | (simp; omega) | simp) _) | (refine Below.setCell ?_ (by first | omega | (simp; omega) | simp) _) | (refine below_trans ?_ (by assumption) (by first | omega | (simp; omega) | simp))))
  clear hc_w1 hf_w1 hc_w2 hf_w2
  obtain ⟨q0, q1, _⟩ := id t2
  have hz : Nobody n ws (List.replicate n 0) := fun j hj _ => by
    rw [List.getD_eq_getElem?_getD, List.getElem?_replicate]
    split <;> rfl
  have I2 : Ints (w2.alloc (.cells (ivals (List.replicate n 0)).toArray 3)) w2.heap.size (List.replicate n 0) := Ints.of_block (heap_alloc_new _ _)
  have hlr : (List.replicate n (0 : Int)).length = n := List.length_replicate
  have HZ := Lib.hid hz
  clear hz
  go_wp2_with fail
  go_loopw [24] (fun ii wr => ∃ k : Nat, ii = .int .i64 (k : Nat) ∧ k ≤ n ∧ ∃ ys : List Int, ys.length = n ∧ Nobody n ws ys ∧ Ints wr w2.heap.size ys ∧ Two wr w.heap.size (.int .i64 (n : Nat)) (.slice A ws.length cap) ∧ w2.heap.size + 1 ≤ wr.heap.size ∧ Below w.heap.size w wr) (fun ii _ => n - (intOf ii).toNat)
  case atStart => exact ⟨0, rfl, Nat.zero_le _, _, hlr, HZ.out, I2, t2.old (by first | omega | (simp; omega) | simp) _, (by first | omega | (simp; omega) | simp), (by repeat (first | exact Below.refl _ _ | assumption | (refine below_drewN ?_ _) | (refine Below.drew ?_) | (refine Below.alloc ?_ (by first | omega | (simp; omega) | simp) _) | (refine Below.setCell ?_ (by first | omega | (simp; omega) | simp) _) | (refine below_trans ?_ (by assumption) (by first | omega | (simp; omega) | simp))))⟩
  case round =>
    obtain ⟨k, rfl, hk, ys, hyl, hN, hI, hT, hsz, hb_wr⟩ := hrel
    have hsr := hb_wr.size
    have hz0 : w.heap.size < wr.heap.size := by omega
    obtain ⟨c0, c1, cf⟩ := id hT
    have HN := Lib.hid hN
    clear hN
    by_cases hlt : k < n
    · obtain ⟨b, off, rfl, hb, hc⟩ := (hr.later hb_wr).at_ (by omega)
      have hck := hc (k / 64) (by omega)
      have hxl := hr.words.at_ (k / 64)
      obtain ⟨x, hx⟩ := named ws (k / 64)
      rw [hx.out] at hck hxl
      clear hc
      have hix : k / 64 < ws.length := by omega
      have htb : tb ws k = x.testBit (k % 64) := by unfold tb; rw [hx.out]
      have hfo := and_one x (k % 64) hxl
      have HT : Hid (tb ws k = x.testBit (k % 64)) := Lib.hid htb
      have HF := Lib.hid hfo
      clear htb hfo hxl
      obtain ⟨y0, yf⟩ := hI.at_ k (by omega)
      have hyk : k < ys.length := by omega
      go_wp2
      · have hh : (bits .and .u64 ((x : Int) / 2 ^ (k % 64)) 1 == 1) = true := by assumption
        go_roundw
        case rel =>
          refine ⟨k + 1, by go_num, by omega, ys.set k (-1), by rw [List.length_set]; exact hyl, fun j hj ht => ?_, hI.set_ k (-1) hyk, hT.off (by show w2.heap.size ≠ w.heap.size; omega) _, (by first | omega | (simp; omega) | simp), (by repeat (first | exact Below.refl _ _ | assumption | (refine below_drewN ?_ _) | (refine Below.drew ?_) | (refine Below.alloc ?_ (by first | omega | (simp; omega) | simp) _) | (refine Below.setCell ?_ (by first | omega | (simp; omega) | simp) _) | (refine below_trans ?_ (by assumption) (by first | omega | (simp; omega) | simp))))⟩
          rw [getD_set _ _ _ _ hyk]
          by_cases e : j = k
          · rw [e, HT.out, ← HF.out, hh] at ht
            cases ht
          · rw [if_neg e]; exact HN.out j hj ht
        case measure => simp [intOf]; omega
      · go_roundw
        case rel => exact ⟨k + 1, by go_num, by omega, ys, hyl, HN.out, hI, hT, hsz, hb_wr⟩
        case measure => simp [intOf]; omega
    · obtain rfl : k = n := by omega
      generalize wr = wB at *
      go_wp2_with fail
      go_loopw [46] (fun ii wr => ∃ j : Nat, ii = .int .i64 (j : Nat) ∧ j ≤ xs.length ∧ ∃ (A' : Option Addr) (cap' : Nat) (us : List Nat) (ys : List Int), us.length = ws.length ∧ Right (k : Nat) us ∧ Row wr wr.heap.size A' us ∧ ys.length = k ∧ Nobody k us ys ∧ Ints wr w2.heap.size ys ∧ Two wr w.heap.size (.int .i64 (k : Nat)) (.slice A' ws.length cap') ∧ w2.heap.size + 1 ≤ wr.heap.size ∧ Below w.heap.size w wr) (fun ii _ => xs.length - (intOf ii).toNat)
      case atStart => exact ⟨0, rfl, Nat.zero_le _, A, cap, ws, ys, rfl, HR.out, hr.later hb_wr, hyl, HN.out, hI, hT, hsz, hb_wr⟩
      case round =>
        clear hI hT hsz hb_wr hsr hz0 c0 c1 cf hyl HN
        clear ys
        obtain ⟨q, rfl, hq2, A', cap', us, ys, hul, hUR, hUrow, hyl, hN, hI, hT, hsz, hb_wr⟩ := hrel
        have hsr := hb_wr.size
        have hz0 : w.heap.size < wr.heap.size := by omega
        have hz2 : w2.heap.size < wr.heap.size := by omega
        obtain ⟨c0, c1, cf⟩ := id hT
        have HN := Lib.hid hN
        have HU := Lib.hid hUR
        clear hN hUR
        by_cases hlt : q < xs.length
        · obtain ⟨b, off, rfl, hb, hc⟩ := (hq.later hb_wr).at_ (by omega)
          have hck := hc q hlt
          have hix := hq.get q
          obtain ⟨x, hx⟩ : ∃ x, Hid (xs.getD q 0 = x) := ⟨_, rfl⟩
          rw [hx.out] at hck hix
          clear hc
          by_cases h30 : q = 30
          · subst h30
            go_wp2
            go_ret
            exact ⟨rfl, hb_wr⟩
          · have hd : ((q : Int) == 30) = false := by simp; omega
            rcases ptake_next k x us ws.length hul HU.out hix.2 with ⟨why, hy, N', us', T⟩ | ⟨a, c, vs, rfl, hc1, hac, hvl, hvR, hfit, hvb, _, T⟩
            · have TT := Lib.hid T
              clear T
              go_wp2_with fail
              go_at_call 11
              refine (TT.out _ _ _ hUrow).mono ?_
              rintro e w3 ⟨A3, cap3, rfl, ho3, hb_w3⟩
              obtain ⟨hc_w3, hf_w3⟩ := bcell hb_w3; have hz_w3_w_0 : w.heap.size < w3.heap.size := (by have hzz := hb_w3.size; (try simp only [World.size_alloc, World.size_setCell, World.size_drew, World.heap_drewN] at hzz); omega); have hz_w3_w2_0 : w2.heap.size < w3.heap.size := (by have hzz := hb_w3.size; (try simp only [World.size_alloc, World.size_setCell, World.size_drew, World.heap_drewN] at hzz); omega); have hs_w3 := hb_w3.size; (try simp only [World.size_alloc, World.size_setCell, World.size_drew, World.heap_drewN] at hs_w3)
              clear hc_w3 hf_w3
              go_wp2
              go_roundw
              case rel => exact ⟨q + 1, by go_num, by omega, A', cap', us, ys, hul, HU.out, hUrow.later (by repeat (first | exact Below.refl _ _ | assumption | (refine below_drewN ?_ _) | (refine Below.drew ?_) | (refine Below.alloc ?_ (by first | omega | (simp; omega) | simp) _) | (refine Below.setCell ?_ (by first | omega | (simp; omega) | simp) _) | (refine below_trans ?_ (by assumption) (by first | omega | (simp; omega) | simp)))), hyl, HN.out, hI.later (by repeat (first | exact Below.refl _ _ | assumption | (refine below_drewN ?_ _) | (refine Below.drew ?_) | (refine Below.alloc ?_ (by first | omega | (simp; omega) | simp) _) | (refine Below.setCell ?_ (by first | omega | (simp; omega) | simp) _) | (refine below_trans ?_ (by assumption) (by first | omega | (simp; omega) | simp)))), (hT.below hb_w3 (by first | omega | (simp; omega) | simp)).old (by first | omega | (simp; omega) | simp) _, (by first | omega | (simp; omega) | simp), (by repeat (first | exact Below.refl _ _ | assumption | (refine below_drewN ?_ _) | (refine Below.drew ?_) | (refine Below.alloc ?_ (by first | omega | (simp; omega) | simp) _) | (refine Below.setCell ?_ (by first | omega | (simp; omega) | simp) _) | (refine below_trans ?_ (by assumption) (by first | omega | (simp; omega) | simp))))⟩
              case measure => simp [intOf]; omega
            · have TT := Lib.hid T
              have HV := Lib.hid hvR
              have HVB := Lib.hid hvb
              have HFI := Lib.hid hfit
              clear T hvR hvb hfit
              go_wp2_with fail
              go_at_call 11
              refine (TT.out _ _ _ hUrow).mono ?_
              rintro e w3 ⟨A3, cap3, rfl, ho3, hb_w3⟩
              obtain ⟨hc_w3, hf_w3⟩ := bcell hb_w3; have hz_w3_w_0 : w.heap.size < w3.heap.size := (by have hzz := hb_w3.size; (try simp only [World.size_alloc, World.size_setCell, World.size_drew, World.heap_drewN] at hzz); omega); have hz_w3_w2_0 : w2.heap.size < w3.heap.size := (by have hzz := hb_w3.size; (try simp only [World.size_alloc, World.size_setCell, World.size_drew, World.heap_drewN] at hzz); omega); have hs_w3 := hb_w3.size; (try simp only [World.size_alloc, World.size_setCell, World.size_drew, World.heap_drewN] at hs_w3)
              have T3 := (hT.below hb_w3 (by first | omega | (simp; omega) | simp)).old (by first | omega | (simp; omega) | simp) (.cells #[.int .i64 (k : Nat), .slice A3 ws.length cap3] 26)
              have Q3 := Two.new w3 (.int .i64 (k : Nat)) (.slice A3 ws.length cap3) 26
              have I3 := (hI.below hb_w3 (by first | omega | (simp; omega) | simp)).later ((Below.refl _ _).alloc (Nat.le_refl _) (.cells #[.int .i64 (k : Nat), .slice A3 ws.length cap3] 26))
              have O3 := ho3.later ((Below.refl _ _).alloc (Nat.le_refl _) (.cells #[.int .i64 (k : Nat), .slice A3 ws.length cap3] 26))
              have B3 : Below w.heap.size w (w3.alloc (.cells #[.int .i64 (k : Nat), .slice A3 ws.length cap3] 26)) := (by repeat (first | exact Below.refl _ _ | assumption | (refine below_drewN ?_ _) | (refine Below.drew ?_) | (refine Below.alloc ?_ (by first | omega | (simp; omega) | simp) _) | (refine Below.setCell ?_ (by first | omega | (simp; omega) | simp) _) | (refine below_trans ?_ (by assumption) (by first | omega | (simp; omega) | simp))))
              have N3 : Hid (Nobody k vs ys) := Lib.hid (fun j hj ht => by
                rw [HVB.out] at ht
                by_cases e : a ≤ j ∧ j < a + c
                · rw [if_pos e] at ht; cases ht
                · rw [if_neg e] at ht; exact HN.out j hj ht)
              have Z3 : Hid (∀ j, a ≤ j → j < a + c → ys.getD j 0 = 0) := Lib.hid (fun j j1 j2 => HN.out j (by omega) (HFI.out j j1 j2))
              clear hc_w3 hf_w3 hT hI c0 c1 cf hUrow HN
              go_wp2_with fail
              generalize wr = wD at *
              go_loopw [12] (fun ii wr => ∃ t : Nat, ii = .int .i64 (t : Nat) ∧ a ≤ t ∧ t ≤ a + c ∧ ∃ zs : List Int, zs.length = k ∧ Nobody k vs zs ∧ (∀ j, t ≤ j → j < a + c → zs.getD j 0 = 0) ∧ Ints wr w2.heap.size zs ∧ Two wr w.heap.size (.int .i64 (k : Nat)) (.slice A' ws.length cap') ∧ Two wr w3.heap.size (.int .i64 (k : Nat)) (.slice A3 ws.length cap3) ∧ Own wr wD.heap.size A3 vs ∧ w3.heap.size + 1 ≤ wr.heap.size ∧ Below w.heap.size w wr) (fun ii _ => a + c - (intOf ii).toNat)
              case atStart => exact ⟨a, rfl, Nat.le_refl _, by omega, ys, hyl, N3.out, Z3.out, I3, T3, Q3, O3, (by first | omega | (simp; omega) | simp), B3⟩
              case round =>
                clear I3 T3 Q3 O3 B3 N3 Z3 ho3 hyl
                clear ys
                obtain ⟨t, rfl, ht1, ht2, zs, hzl, hN, hZ, hI, hT, hQ, hO, hsz3, hb_wr3⟩ := hrel
                have hsr3 := hb_wr3.size
                have hzz0 : w.heap.size < wr.heap.size := by omega
                have hzz2 : w2.heap.size < wr.heap.size := by omega
                have hzz3 : w3.heap.size < wr.heap.size := by omega
                have HN := Lib.hid hN
                have HZ3 := Lib.hid hZ
                clear hN hZ
                by_cases htl : t < a + c
                · obtain ⟨y0, yf⟩ := hI.at_ t (by omega)
                  rw [HZ3.out t (Nat.le_refl _) htl] at y0
                  have hd2 : decide ((k : Int) ≤ (t : Nat)) = false := decide_eq_false (by omega)
                  go_wp2
                  go_roundw
                  case rel =>
                    refine ⟨t + 1, by go_num, by omega, by omega, zs.set t ((q : Int) + 1), by rw [List.length_set]; exact hzl, fun j hj ht => ?_, fun j j1 j2 => ?_, hI.set_ t _ (by omega), hT.off (by show w2.heap.size ≠ w.heap.size; omega) _, hQ.off (by show w2.heap.size ≠ w3.heap.size; omega) _, hO.far (.inl (by first | omega | (simp; omega) | simp)) _, (by first | omega | (simp; omega) | simp), (by repeat (first | exact Below.refl _ _ | assumption | (refine below_drewN ?_ _) | (refine Below.drew ?_) | (refine Below.alloc ?_ (by first | omega | (simp; omega) | simp) _) | (refine Below.setCell ?_ (by first | omega | (simp; omega) | simp) _) | (refine below_trans ?_ (by assumption) (by first | omega | (simp; omega) | simp))))⟩
                    · rw [getD_set _ _ _ _ (by omega)]
                      by_cases e : j = t
                      · rw [e, HVB.out, if_pos ⟨ht1, htl⟩] at ht; cases ht
                      · rw [if_neg e]; exact HN.out j hj ht
                    · rw [getD_set _ _ _ _ (by omega), if_neg (by omega)]
                      exact HZ3.out j (by omega) j2
                  case measure => simp [intOf]; omega
                · obtain ⟨c0, c1, cf⟩ := id hT
                  obtain ⟨d0, d1, df⟩ := id hQ
                  go_wp2
                  go_roundw
                  case rel => exact ⟨q + 1, by go_num, by omega, A3, cap3, vs, zs, hvl, HV.out, (hO.two (g := w.heap.size) (by first | omega | (simp; omega) | simp)).row, hzl, HN.out, (hI.far (by show w.heap.size ≠ w2.heap.size; omega) _).far (by show w.heap.size ≠ w2.heap.size; omega) _, hT.set_ _ _, (by first | omega | (simp; omega) | simp), (by repeat (first | exact Below.refl _ _ | assumption | (refine below_drewN ?_ _) | (refine Below.drew ?_) | (refine Below.alloc ?_ (by first | omega | (simp; omega) | simp) _) | (refine Below.setCell ?_ (by first | omega | (simp; omega) | simp) _) | (refine below_trans ?_ (by assumption) (by first | omega | (simp; omega) | simp))))⟩
                  case measure => simp [intOf]; omega
        · go_wp2
          go_ret
          exact ⟨rfl, hb_wr⟩
theorem pagesApart_walk (N : Int) (A C : Option Addr) (cap cc : Nat) (ws : List Nat) (xs : List Int) (w : World) (hr : Row w w.heap.size A ws) (hq : IRow w w.heap.size C xs) (hxl : xs.length ≤ 17592186044416) :
    Calls Try.prog 6 #[.agg #[.int .i64 N, .slice A ws.length cap], .slice C xs.length cc] w fun e w' => e = .returned (.bool true) ∧ Below w.heap.size w w' := by
  by_cases h : Right N ws
  · obtain ⟨n, rfl⟩ := Int.eq_ofNat_of_zero_le h.1
    exact pagesApart_main n A C cap cc ws xs w hr hq hxl h
  · have HR := Lib.hid h
    clear h
    go_enter Try.func6, Try.ntmps6
    go_wp2_with fail
    go_at_call 15
    refine (plives_any _).mono ?_
    rintro e w1 ⟨rfl, hb_w1⟩
    obtain ⟨hc_w1, hf_w1⟩ := bcell hb_w1; have hz_w1_w_0 : w.heap.size < w1.heap.size := (by have hzz := hb_w1.size; (try simp only [World.size_alloc, World.size_setCell, World.size_drew, World.heap_drewN] at hzz); omega); have hs_w1 := hb_w1.size; (try simp only [World.size_alloc, World.size_setCell, World.size_drew, World.heap_drewN] at hs_w1)
    go_wp2_with fail
    go_at_call 23
    refine (pcheck_bad _ (hr.later (by repeat (first | exact Below.refl _ _ | assumption | (refine below_drewN ?_ _) | (refine Below.drew ?_) | (refine Below.alloc ?_ (by first | omega | (simp; omega) | simp) _) | (refine Below.setCell ?_ (by first | omega | (simp; omega) | simp) _) | (refine below_trans ?_ (by assumption) (by first | omega | (simp; omega) | simp))))) HR.out).mono ?_
    rintro e w2 ⟨rfl, hb_w2⟩
    obtain ⟨hc_w2, hf_w2⟩ := bcell hb_w2; have hz_w2_w_0 : w.heap.size < w2.heap.size := (by have hzz := hb_w2.size; (try simp only [World.size_alloc, World.size_setCell, World.size_drew, World.heap_drewN] at hzz); omega); have hs_w2 := hb_w2.size; (try simp only [World.size_alloc, World.size_setCell, World.size_drew, World.heap_drewN] at hs_w2)
    go_wp2
    go_ret
    exact ⟨rfl, (by repeat (first | exact Below.refl _ _ | assumption | (refine below_drewN ?_ _) | (refine Below.drew ?_) | (refine Below.alloc ?_ (by first | omega | (simp; omega) | simp) _) | (refine Below.setCell ?_ (by first | omega | (simp; omega) | simp) _) | (refine below_trans ?_ (by assumption) (by first | omega | (simp; omega) | simp))))⟩
end Go.Proofs.Ytcokfdgbgeeabaa
