/- parts Z47, Z50 -/
import Derived.Test.YtogfbdeplogcfaaGreatDoorMY19
set_option linter.unusedVariables false
set_option linter.unusedSimpArgs false
namespace Go.Proofs.YtogfbdeplogcfaaGreatDoor
open Go.RowKit
set_option maxRecDepth 100000

theorem NewE.facts {h : Hp} {n : Int} {m : Nat} {bl : Bool} {h' : Hp} {a : Nat} (hE : NewE h n m bl h' a 0) : OkH h ∧ OkH h' ∧ (0 ≤ n ∧ n ≤ 48) ∧ (16 ≤ a ∧ a + n.toNat < 16384) ∧ AtE h' a n m 0 ∧ MkdE h' a bl 0 ∧ (∀ q : Nat, (q : Int) < n → ∃ r, LoadE h' a q 0 r 0) ∧
    ∀ b ∈ addrs (cursH h), ∃ n1 m1, AtE h b n1 m1 0 ∧ AtE h' b n1 m1 0 ∧ (0 ≤ n1 ∧ n1 ≤ 48) ∧ b < 16384 ∧ (b < a → b + n1.toNat < a) ∧ (a < b → a + n.toNat < b) ∧ b ≠ a := by
  obtain ⟨hk, hk', hsh, hcur, hno, I, K, h1, ok1, hc1, hws, hn, hI, hK, hsw, hfree, hfit, rfl, rfl⟩ := hE.made
  have hs : 0 ≤ n ∧ n ≤ 48 := by unfold Sh at hsh; omega
  have hroom := szn_room hs.1 hs.2 hfit
  have w1 := ok1.slotW hI hK
  have hle := ok1.framed.words
  have ok := ok1.framed.spans.at_ hI
  have hpk := pk_uns hsh
  have L := plcH_like ok1 hI hK n m bl
  have hnI : nth (plcH h1 I K n m bl).l I = plcD (nth h1.l I) K bl := by
    show nth (h1.l.set I _) I = _
    rw [nth_set _ _ _ _ hI, if_pos rfl]
  have p := L.pl I hI
  have hIl : I < (plcH h1 I K n m bl).l.length := by rw [L.l]; exact hI
  have hKl : K < slN (nth (plcH h1 I K n m bl).l I) := by rw [p.slN]; exact hK
  have hcn : tb (curW (nth (plcH h1 I K n m bl).l I)) K = true := by
    rw [hnI, plc_cur ok hK hsw, if_pos rfl]
  have hw : ∀ q, (plcH h1 I K n m bl).ws.getD q 0 = if q = slA (nth h1.l I) K then pk n m else h1.ws.getD q 0 := fun q => getD_set _ _ _ _ (by omega)
  have head : (plcH h1 I K n m bl).ws.getD (slA (nth h1.l I) K) 0 = pk n m := by rw [hw, if_pos rfl]
  have so := ok1.filled.sound I hI K hK
  refine ⟨hk, hk', hs, ⟨w1.2.1, by omega⟩, ?_, ?_, fun q hq => ?_, fun b hb => ?_⟩
  · have := at_at hk' hIl hKl hcn
    rw [p.slA, head, hpk.2.1, hpk.2.2] at this
    exact this
  · obtain ⟨F1, F2⟩ := fn_at hk' hIl hKl hcn
    rw [p.slA] at F1 F2
    refine .inr ⟨hk', ?_, F2.symm⟩
    rw [F1]
    show bl = tb (nth (plcH h1 I K n m bl).l I).mw K
    rw [hnI]
    show bl = tb (putW (nth h1.l I).mw K bl) K
    have h64 : K < 64 * (nth h1.l I).mw.length := by have := ok.mw; have := ok.slK; omega
    rw [tb_putW _ _ _ _ h64, if_pos rfl]
  · have := load_at hk' hIl hKl hcn q (by rw [p.slA, head, hpk.2.1]; exact hq)
    rw [p.slA, hw (_ + 1 + q), if_neg (by omega)] at this
    have h0 := so.rest (1 + q) (by unfold takN; rw [hfree]; simp) (by omega)
    rw [show slA (nth h1.l I) K + (1 + q) = slA (nth h1.l I) K + 1 + q by omega] at h0
    rw [h0] at this
    exact ⟨_, this⟩
  · have hbc := (mem_addrs hk.framed.spans b).1 hb
    have hba : b ≠ slA (nth h1.l I) K := fun e => hno (by rw [← e]; exact hbc)
    obtain ⟨j, k, hj, hk1, hc, rfl⟩ := (hc1 b).2 hbc
    have hbl := hk.slotW (j := (cur_addr hk hb).choose) (k := (cur_addr hk hb).choose_spec.choose) (cur_addr hk hb).choose_spec.choose_spec.1 (cur_addr hk hb).choose_spec.choose_spec.2.1
    obtain ⟨s1, s2, s3, s4, s5⟩ := cur_room ok1 hj hk1 hc
    have w2 := ok1.slotW hj hk1
    have pj := L.pl j hj
    have hcj : tb (curW (nth (plcH h1 I K n m bl).l j)) k = true := by
      show tb (curW (nth (h1.l.set I _) j)) k = true
      rw [nth_set _ _ _ _ hI]
      split
      · rename_i e
        subst e
        rw [plc_cur ok hK hsw]
        split
        · rfl
        · exact hc
      · exact hc
    have A2 := at_at hk' (j := j) (k := k) (by rw [L.l]; exact hj) (by rw [pj.slN]; exact hk1) hcj
    rw [pj.slA, hw, if_neg hba, hws] at A2
    obtain ⟨j', k', hj', hk2, hc', e'⟩ := cur_addr hk hb
    have A1 := at_at hk hj' hk2 hc'
    rw [e'] at A1
    rw [hws] at s1 s2 s5
    have apart : ∀ q q' : Nat, q < swd (nth h1.l j) → q' < swd (nth h1.l I) → slA (nth h1.l j) k + q ≠ slA (nth h1.l I) K + q' := fun q q' g1 g2 e => by
      obtain ⟨rfl, rfl⟩ := slot_one ok1.framed hj hk1 hI hK (i := slA (nth h1.l j) k + q) (by omega) (by omega) (by omega) (by omega)
      exact hba rfl
    have hle2 := ok1.framed.words
    refine ⟨_, _, A1, A2, ⟨s2, s5⟩, by omega, fun hlt => ?_, fun hgt => ?_, hba⟩
    · by_cases g : slA (nth h1.l j) k + (unN (h.ws.getD (slA (nth h1.l j) k) 0)).toNat < slA (nth h1.l I) K
      · exact g
      · exact (apart (slA (nth h1.l I) K - slA (nth h1.l j) k) 0 (by omega) (by omega) (by omega)).elim
    · by_cases g : slA (nth h1.l I) K + n.toNat < slA (nth h1.l j) k
      · exact g
      · exact (apart 0 (slA (nth h1.l j) k - slA (nth h1.l I) K) (by omega) (by omega) (by omega)).elim
end Go.Proofs.YtogfbdeplogcfaaGreatDoor
namespace Go.Proofs.YtogfbdeplogcfaaGreatDoor
open Go.RowKit
set_option maxRecDepth 100000

theorem NewE.zero {h : Hp} {n : Int} {m : Nat} {bl : Bool} {h' : Hp} {a : Nat} {y : Int} (hE : NewE h n m bl h' a y) (hy : y ≠ 0) : a = 0 := by
  rcases hE with ⟨_, _, e, _⟩ | ⟨_, _, _, e, _⟩ | ⟨_, _, _, _, e⟩ | ⟨_, _, e, _⟩
  · exact e
  · exact e
  · exact e
  · exact absurd e hy
set_option maxHeartbeats 8000000 in
theorem heapApart_walk (v : Hv) (h : Hp) (n : Int) (m : Nat) (bl : Bool) (w : World) (hz : Sizes w) (hM : HM w w.heap.size v h) (hs : Short h) (hnil : v.V = none → v.cv = 0) (hm : m < W64) :
    Calls Tryz.prog 8 #[hpV v h, .agg #[.int .i64 n, .int .u64 (m : Nat)], .bool bl] w fun e w' => e = .returned (.bool true) ∧ Below w.heap.size w w' := by
  have X0 := (HIn.new hM 31).alloc (.cells #[.int .i64 n, .int .u64 (m : Nat)] 34)
  have P0 := (Two.new1 w (.cells #[.slice v.A h.ws.length v.ca, .int .i64 h.n, .slice v.U h.us.length v.cu, .slice v.V h.l.length v.cv] 31) (.int .i64 n) (.int .u64 (m : Nat)) 34)
  obtain ⟨h1, a1, y1, E1⟩ := NewE.ex h n m bl
  by_cases hy : y1 = 0
  · rw [hy] at E1
    obtain ⟨hk, hk2, hn, ha1, EA1, EM1, FL, FB⟩ := E1.facts
    have HNEW := Lib.hid fun (w : World) hz hM => znewH_any (w := w) (v := v) (h := h) hz hM (by have := hs.l; omega) hs.ws hnil n m hm bl h1 a1 0 E1
    have hs2 := hk2.short
    have OB1 : ObjE h (addrs (cursH h)) 0 := .inr ⟨hk, rfl, rfl⟩
    have htl := addrs_len hk
    generalize addrs (cursH h) = t at *
    have HO1 := Lib.hid fun (w : World) hz hM => zobjH_any (w := w) (v := v) (h := h) hz hM (by have := hs.l; omega) hs.ws t 0 OB1
    have HC := Lib.hid fun (w : World) (v : Hv) hz hM => zcheck_any (w := w) (v := v) (h := h1) hz hM (by have := hs2.l; omega) hs2.ws 0 (.inl ⟨hk2, rfl⟩)
    have HAT := Lib.hid fun (w : World) (b n m) hz hM (hb : b < W64) hE => zat_any (w := w) (v := v) (h := h) hz hM (by have := hs.l; omega) hs.ws b hb n m 0 hE
    have HAT2 := Lib.hid fun (w : World) (v : Hv) (b n m) hz hM (hb : b < W64) hE => zat_any (w := w) (v := v) (h := h1) hz hM (by have := hs2.l; omega) hs2.ws b hb n m 0 hE
    have HMK := Lib.hid fun (w : World) (v : Hv) hz hM => zmarked_any (w := w) (v := v) (h := h1) hz hM (by have := hs2.l; omega) hs2.ws a1 (by unfold W64; omega) bl 0 EM1
    have HL2 := Lib.hid fun (w : World) (v : Hv) (f : Int) (x : Nat) (r : Bool) hz hM hE => zload_any (w := w) (v := v) (h := h1) hz hM (by have := hs2.l; omega) hs2.ws a1 (by unfold W64; omega) f x r 0 hE
    obtain ⟨NN, rfl⟩ : ∃ N : Nat, n = (N : Int) := ⟨n.toNat, by omega⟩
    simp only [Int.toNat_natCast] at FB ha1
    have HFB := Lib.hid FB
    have HFL := Lib.hid FL
    have HTL := Lib.hid htl
    have HA1 := Lib.hid ha1
    have HEA1 := Lib.hid EA1
    have HNN := Lib.hid hn
    have da : ((a1 : Nat) : Int) ≠ 0 := by omega
    have da2 : (((a1 : Nat) : Int) == (0 : Int)) = false := by simpa using da
    have dm : (((m : Nat) : Int) != ((m : Nat) : Int)) = false := by simp
    have dn : (((NN : Nat) : Int) != ((NN : Nat) : Int)) = false := by simp
    have db : (bl != bl) = false := by simp
    unfold FreshHa at HNEW
    unfold FreshW at HO1
    clear E1 hy y1 hk hk2 FB FL ha1 EA1 EM1 hn hs2 OB1 htl hs hM hnil
    unfold hpV hpv at HC HO1 HNEW HAT HAT2 HL2 HMK ⊢
    go_enter Tryz.func8, Tryz.ntmps8
    go_wp2_with fail
    go_at_call 19
    refine (hlives_any _ (hz.later (by repeat (first|exact bR _ _|assumption|refine bN ?_ _|refine bD ?_|refine bA ?_ (by first|omega|simp;omega|simp) _|refine bS ?_ (by first|omega|simp;omega|simp) _|refine bT ?_ (by assumption) (by first|omega|simp;omega|simp))))).mono ?_
    rintro e w1 ⟨rfl, hb_w1⟩
    have b_w1 : Below w.heap.size w w1 := (by repeat (first|exact bR _ _|assumption|refine bN ?_ _|refine bD ?_|refine bA ?_ (by first|omega|simp;omega|simp) _|refine bS ?_ (by first|omega|simp;omega|simp) _|refine bT ?_ (by assumption) (by first|omega|simp;omega|simp)))
    replace X0 := X0.later hb_w1
    replace P0 := P0.later hb_w1
    obtain ⟨X0_c0, X0_c1, X0_c2, X0_c3, X0_f0, X0_f1, X0_f2, X0_f3⟩ := id X0.box
    obtain ⟨P0_c0, P0_c1, P0_f0⟩ := id P0
    go_wp2_with fail
    go_at_call 15
    refine (HNEW.out _ (hz.later (by exact b_w1)) X0.m).mono ?_
    rintro e w3 ⟨v3, rfl, o3, hb_w3⟩
    clear X0_c0 X0_c1 X0_c2 X0_c3 X0_f0 X0_f1 X0_f2 X0_f3 P0_c0 P0_c1 P0_f0
    have b_w3 : Below w.heap.size w w3 := b_w1.trans (hb_w3.mono b_w1.size)
    replace X0 := X0.later hb_w3
    replace P0 := P0.later hb_w3
    have a_w3_0 : Below w3.heap.size w3 (w3.alloc (.cells #[.slice v3.A h1.ws.length v3.ca, .int .i64 h1.n, .slice v3.U h1.us.length v3.cu, .slice v3.V h1.l.length v3.cv] 31)) := Below.alloc (Below.refl _ _) (Nat.le_refl _) _
    replace X0 := X0.later a_w3_0
    replace P0 := P0.later a_w3_0
    have X3 := HIn.new o3.hm 31
    have b_w3_0 : Below w.heap.size w (w3.alloc (.cells #[.slice v3.A h1.ws.length v3.ca, .int .i64 h1.n, .slice v3.U h1.us.length v3.cu, .slice v3.V h1.l.length v3.cv] 31)) := b_w3.trans (a_w3_0.mono b_w3.size)
    clear o3
    obtain ⟨X3_c0, X3_c1, X3_c2, X3_c3, X3_f0, X3_f1, X3_f2, X3_f3⟩ := id X3.box
    go_wp2_with fail
    go_at_call 23
    refine (HAT2.out _ _ _ _ _ (hz.later (by exact b_w3_0)) (by exact X3.m) (by have := HA1.out; unfold W64; omega) HEA1.out).mono ?_
    rintro e w4 ⟨rfl, hb_w4⟩
    clear X3_c0 X3_c1 X3_c2 X3_c3 X3_f0 X3_f1 X3_f2 X3_f3
    have b_w4 : Below w.heap.size w w4 := b_w3_0.trans (hb_w4.mono b_w3_0.size)
    replace X0 := X0.later hb_w4
    replace P0 := P0.later hb_w4
    replace X3 := X3.later hb_w4
    have a_w4_0 : Below w4.heap.size w4 (w4.alloc (.cells #[.int .i64 (NN : Nat), .int .u64 (m : Nat)] 34)) := Below.alloc (Below.refl _ _) (Nat.le_refl _) _
    replace X0 := X0.later a_w4_0
    replace P0 := P0.later a_w4_0
    replace X3 := X3.later a_w4_0
    have P4 := Two.new w4 (.int .i64 (NN : Nat)) (.int .u64 (m : Nat)) 34
    have b_w4_0 : Below w.heap.size w (w4.alloc (.cells #[.int .i64 (NN : Nat), .int .u64 (m : Nat)] 34)) := b_w4.trans (a_w4_0.mono b_w4.size)
    obtain ⟨X3_c0, X3_c1, X3_c2, X3_c3, X3_f0, X3_f1, X3_f2, X3_f3⟩ := id X3.box
    go_wp2_with fail
    go_at_call 31
    refine (HMK.out _ _ (hz.later (by exact b_w4_0)) (by exact X3.m)).mono ?_
    rintro e w5 ⟨rfl, hb_w5⟩
    clear X3_c0 X3_c1 X3_c2 X3_c3 X3_f0 X3_f1 X3_f2 X3_f3
    have b_w5 : Below w.heap.size w w5 := b_w4_0.trans (hb_w5.mono b_w4_0.size)
    replace X0 := X0.later hb_w5
    replace P0 := P0.later hb_w5
    replace X3 := X3.later hb_w5
    replace P4 := P4.later hb_w5
    obtain ⟨P0_c0, P0_c1, P0_f0⟩ := id P0
    obtain ⟨X3_c0, X3_c1, X3_c2, X3_c3, X3_f0, X3_f1, X3_f2, X3_f3⟩ := id X3.box
    obtain ⟨P4_c0, P4_c1, P4_f0⟩ := id P4
    go_wp2_with fail
    go_at_call 21
    refine (HC.out _ _ (hz.later (by exact b_w5)) (by exact X3.m)).mono ?_
    rintro e w6 ⟨rfl, hb_w6⟩
    clear P0_c0 P0_c1 P0_f0 X3_c0 X3_c1 X3_c2 X3_c3 X3_f0 X3_f1 X3_f2 X3_f3 P4_c0 P4_c1 P4_f0
    have b_w6 : Below w.heap.size w w6 := b_w5.trans (hb_w6.mono b_w5.size)
    replace X0 := X0.later hb_w6
    replace P0 := P0.later hb_w6
    replace X3 := X3.later hb_w6
    replace P4 := P4.later hb_w6
    clear P4
    obtain ⟨P0_c0, P0_c1, P0_f0⟩ := id P0
    go_wp2_with fail
    go_loopw [14] (fun ii wr => ∃ q : Nat, ii = .int .i64 (q : Nat) ∧ q ≤ NN ∧ HIn wr w.heap.size v h ∧ HIn wr w3.heap.size v3 h1 ∧ Two wr (w.heap.size + 1) (.int .i64 (NN : Nat)) (.int .u64 (m : Nat)) ∧ Below w.heap.size w wr) (fun ii _ => NN - (intOf ii).toNat)
    case atStart => exact ⟨0, rfl, Nat.zero_le _, X0, X3, P0, b_w6⟩
    case round =>
      clear X0 X3 P0 P0_c0 P0_c1 P0_f0 b_w6
      obtain ⟨q, rfl, hq, X0, X3, P0, b_wr⟩ := hrel
      by_cases hql : q < NN
      · obtain ⟨r0, EL⟩ := HFL.out q (by omega)
        have hnn := HNN.out
        obtain ⟨X3_c0, X3_c1, X3_c2, X3_c3, X3_f0, X3_f1, X3_f2, X3_f3⟩ := id X3.box
        obtain ⟨P0_c0, P0_c1, P0_f0⟩ := id P0
        go_wp2_with fail
        go_at_call 25
        refine (HL2.out _ _ _ _ _ (hz.later (by exact b_wr)) (by exact X3.m) EL).mono ?_
        rintro e w7 ⟨rfl, hb_w7⟩
        clear X3_c0 X3_c1 X3_c2 X3_c3 X3_f0 X3_f1 X3_f2 X3_f3 P0_c0 P0_c1 P0_f0
        have b_w7 : Below w.heap.size w w7 := b_wr.trans (hb_w7.mono b_wr.size)
        replace X0 := X0.later hb_w7
        replace X3 := X3.later hb_w7
        replace P0 := P0.later hb_w7
        clear EL
        go_wp2
        go_roundw
        case rel => exact ⟨q + 1, by go_num, by omega, X0, X3, P0, b_w7⟩
        case measure => simp [intOf]; omega
      · obtain rfl : q = NN := by omega
        obtain ⟨X0_c0, X0_c1, X0_c2, X0_c3, X0_f0, X0_f1, X0_f2, X0_f3⟩ := id X0.box
        obtain ⟨P0_c0, P0_c1, P0_f0⟩ := id P0
        go_wp2_with fail
        go_at_call 35
        refine (HO1.out _ (hz.later (by exact b_wr)) (by exact X0.m)).mono ?_
        rintro e w8 ⟨A8, c8, rfl, o8, hb_w8⟩
        clear X0_c0 X0_c1 X0_c2 X0_c3 X0_f0 X0_f1 X0_f2 X0_f3 P0_c0 P0_c1 P0_f0
        have b_w8 : Below w.heap.size w w8 := b_wr.trans (hb_w8.mono b_wr.size)
        replace X0 := X0.later hb_w8
        replace X3 := X3.later hb_w8
        replace P0 := P0.later hb_w8
        have R8 := o8.row
        clear o8
        go_wp2_with fail
        generalize wr = wA at *
        go_loopw [104] (fun ii wr => ∃ k : Nat, ii = .int .i64 (k : Nat) ∧ k ≤ t.length ∧ HIn wr w.heap.size v h ∧ HIn wr w3.heap.size v3 h1 ∧ Two wr (w.heap.size + 1) (.int .i64 (q : Nat)) (.int .u64 (m : Nat)) ∧ Row wr wr.heap.size A8 t ∧ Below w.heap.size w wr) (fun ii _ => t.length - (intOf ii).toNat)
        case atStart => exact ⟨0, rfl, Nat.zero_le _, X0, X3, P0, R8, b_w8⟩
        case round =>
          clear X0 X3 P0 R8 b_w8
          obtain ⟨k, rfl, hk, X0, X3, P0, R8, b_wr⟩ := hrel
          by_cases hlt : k < t.length
          · obtain ⟨bk, off, rfl, hbl, hc8⟩ := R8.at_ (by omega)
            have q8 := hc8 k hlt
            have hmem : t.getD k 0 ∈ t := by rw [List.getD_eq_getElem?_getD, List.getElem?_eq_getElem hlt]; exact List.getElem_mem hlt
            obtain ⟨n1, m1, EX, EY, hn1, hb1, g1, g2, g3⟩ := HFB.out _ hmem
            generalize t.getD k 0 = b at *
            obtain ⟨N1, rfl⟩ : ∃ N : Nat, n1 = (N : Int) := ⟨n1.toNat, by omega⟩
            simp only [Int.toNat_natCast] at g1
            have hb64 : b < W64 := by unfold W64; omega
            have j0 : (0 : Int) ≤ (k : Int) := by omega
            have j1 : (k : Int) < (t.length : Int) := by omega
            clear hc8 hmem
            obtain ⟨X0_c0, X0_c1, X0_c2, X0_c3, X0_f0, X0_f1, X0_f2, X0_f3⟩ := id X0.box
            go_wp2_with fail
            go_at_call 23
            refine (HAT.out _ _ _ _ (hz.later (by exact b_wr)) (by exact X0.m) hb64 EX).mono ?_
            rintro e w9 ⟨rfl, hb_w9⟩
            clear X0_c0 X0_c1 X0_c2 X0_c3 X0_f0 X0_f1 X0_f2 X0_f3
            have b_w9 : Below w.heap.size w w9 := b_wr.trans (hb_w9.mono b_wr.size)
            replace X0 := X0.later hb_w9
            replace X3 := X3.later hb_w9
            replace P0 := P0.later hb_w9
            replace R8 := R8.later hb_w9
            have a_w9_0 : Below w9.heap.size w9 (w9.alloc (.cells #[.int .i64 (N1 : Nat), .int .u64 (m1 : Nat)] 34)) := Below.alloc (Below.refl _ _) (Nat.le_refl _) _
            replace X0 := X0.later a_w9_0
            replace X3 := X3.later a_w9_0
            replace P0 := P0.later a_w9_0
            replace R8 := R8.later a_w9_0
            have P9 := Two.new w9 (.int .i64 (N1 : Nat)) (.int .u64 (m1 : Nat)) 34
            have b_w9_0 : Below w.heap.size w (w9.alloc (.cells #[.int .i64 (N1 : Nat), .int .u64 (m1 : Nat)] 34)) := b_w9.trans (a_w9_0.mono b_w9.size)
            clear q8 j0 j1 EX
            obtain ⟨X3_c0, X3_c1, X3_c2, X3_c3, X3_f0, X3_f1, X3_f2, X3_f3⟩ := id X3.box
            obtain ⟨P0_c0, P0_c1, P0_f0⟩ := id P0
            obtain ⟨P9_c0, P9_c1, P9_f0⟩ := id P9
            go_wp2_with fail
            go_at_call 23
            refine (HAT2.out _ _ _ _ _ (hz.later (by exact b_w9_0)) (by exact X3.m) hb64 EY).mono ?_
            rintro e w10 ⟨rfl, hb_w10⟩
            clear X3_c0 X3_c1 X3_c2 X3_c3 X3_f0 X3_f1 X3_f2 X3_f3 P0_c0 P0_c1 P0_f0 P9_c0 P9_c1 P9_f0
            have b_w10 : Below w.heap.size w w10 := b_w9_0.trans (hb_w10.mono b_w9_0.size)
            replace X0 := X0.later hb_w10
            replace X3 := X3.later hb_w10
            replace P0 := P0.later hb_w10
            replace R8 := R8.later hb_w10
            replace P9 := P9.later hb_w10
            have a_w10_0 : Below w10.heap.size w10 (w10.alloc (.cells #[.int .i64 (N1 : Nat), .int .u64 (m1 : Nat)] 34)) := Below.alloc (Below.refl _ _) (Nat.le_refl _) _
            replace X0 := X0.later a_w10_0
            replace X3 := X3.later a_w10_0
            replace P0 := P0.later a_w10_0
            replace R8 := R8.later a_w10_0
            replace P9 := P9.later a_w10_0
            have P10 := Two.new w10 (.int .i64 (N1 : Nat)) (.int .u64 (m1 : Nat)) 34
            have b_w10_0 : Below w.heap.size w (w10.alloc (.cells #[.int .i64 (N1 : Nat), .int .u64 (m1 : Nat)] 34)) := b_w10.trans (a_w10_0.mono b_w10.size)
            obtain ⟨P0_c0, P0_c1, P0_f0⟩ := id P0
            obtain ⟨P9_c0, P9_c1, P9_f0⟩ := id P9
            obtain ⟨P10_c0, P10_c1, P10_f0⟩ := id P10
            clear EY
            have hnn := HNN.out
            have hA1 := HA1.out
            have htl2 := HTL.out
            have l9 := World.block_lt_of_cell? _ _ P9_c0
            have l0 := World.block_lt_of_cell? _ _ P0_c0
            have u1 : IntKind.u64.wrap ((N1 : Nat) : Int) = N1 := IntWalk.u64_in _ (by omega)
            have u2 : IntKind.u64.wrap (((b : Nat) : Int) + ((N1 : Nat) : Int)) = b + N1 := IntWalk.u64_in _ (by omega)
            have u3 : IntKind.u64.wrap ((q : Nat) : Int) = q := IntWalk.u64_in _ (by omega)
            have u4 : IntKind.u64.wrap (((a1 : Nat) : Int) + ((q : Nat) : Int)) = a1 + q := IntWalk.u64_in _ (by omega)
            have d5 : (((N1 : Nat) : Int) != ((N1 : Nat) : Int)) = false := by simp
            have d6 : (((m1 : Nat) : Int) != ((m1 : Nat) : Int)) = false := by simp
            have d7 : (((b : Nat) : Int) == ((a1 : Nat) : Int)) = false := by simp; omega
            by_cases hba : b < a1
            · have g4 := g1 hba
              have d8 : decide (((b : Nat) : Int) < ((a1 : Nat) : Int)) = true := by simp; omega
              have d9 : decide (((a1 : Nat) : Int) < ((b : Nat) : Int)) = false := by simp; omega
              have d10 : decide (((b : Nat) : Int) + ((N1 : Nat) : Int) ≥ ((a1 : Nat) : Int)) = false := by simp; omega
              go_wp2
              go_roundw
              case rel => exact ⟨k + 1, by go_num, by omega, X0, X3, P0, R8, b_w10_0⟩
              case measure => simp [intOf]; omega
            · have g4 := g2 (by omega)
              have d8 : decide (((b : Nat) : Int) < ((a1 : Nat) : Int)) = false := by simp; omega
              have d9 : decide (((a1 : Nat) : Int) < ((b : Nat) : Int)) = true := by simp; omega
              have d10 : decide (((a1 : Nat) : Int) + ((q : Nat) : Int) ≥ ((b : Nat) : Int)) = false := by simp; omega
              go_wp2
              go_roundw
              case rel => exact ⟨k + 1, by go_num, by omega, X0, X3, P0, R8, b_w10_0⟩
              case measure => simp [intOf]; omega
          · obtain rfl : k = t.length := by omega
            go_wp2
            go_ret
            exact ⟨rfl, b_wr⟩
  · obtain rfl := E1.zero hy
    have d3 : (y1 != (0 : Int)) = true := by simpa using hy
    have HNEW := Lib.hid fun (w : World) hz hM => znewH_any (w := w) (v := v) (h := h) hz hM (by have := hs.l; omega) hs.ws hnil n m hm bl h1 0 y1 E1
    unfold FreshHa at HNEW
    clear E1 hs hM hnil hy
    unfold hpV hpv at HNEW ⊢
    go_enter Tryz.func8, Tryz.ntmps8
    go_wp2_with fail
    go_at_call 19
    refine (hlives_any _ (hz.later (by repeat (first|exact bR _ _|assumption|refine bN ?_ _|refine bD ?_|refine bA ?_ (by first|omega|simp;omega|simp) _|refine bS ?_ (by first|omega|simp;omega|simp) _|refine bT ?_ (by assumption) (by first|omega|simp;omega|simp))))).mono ?_
    rintro e w1 ⟨rfl, hb_w1⟩
    have b_w1 : Below w.heap.size w w1 := (by repeat (first|exact bR _ _|assumption|refine bN ?_ _|refine bD ?_|refine bA ?_ (by first|omega|simp;omega|simp) _|refine bS ?_ (by first|omega|simp;omega|simp) _|refine bT ?_ (by assumption) (by first|omega|simp;omega|simp)))
    replace X0 := X0.later hb_w1
    replace P0 := P0.later hb_w1
    obtain ⟨X0_c0, X0_c1, X0_c2, X0_c3, X0_f0, X0_f1, X0_f2, X0_f3⟩ := id X0.box
    obtain ⟨P0_c0, P0_c1, P0_f0⟩ := id P0
    go_wp2_with fail
    go_at_call 15
    refine (HNEW.out _ (hz.later (by exact b_w1)) X0.m).mono ?_
    rintro e w3 ⟨v3, rfl, o3, hb_w3⟩
    clear X0_c0 X0_c1 X0_c2 X0_c3 X0_f0 X0_f1 X0_f2 X0_f3 P0_c0 P0_c1 P0_f0
    have b_w3 : Below w.heap.size w w3 := b_w1.trans (hb_w3.mono b_w1.size)
    replace X0 := X0.later hb_w3
    replace P0 := P0.later hb_w3
    have a_w3_0 : Below w3.heap.size w3 (w3.alloc (.cells #[.slice v3.A h1.ws.length v3.ca, .int .i64 h1.n, .slice v3.U h1.us.length v3.cu, .slice v3.V h1.l.length v3.cv] 31)) := Below.alloc (Below.refl _ _) (Nat.le_refl _) _
    replace X0 := X0.later a_w3_0
    replace P0 := P0.later a_w3_0
    have X3 := HIn.new o3.hm 31
    have b_w3_0 : Below w.heap.size w (w3.alloc (.cells #[.slice v3.A h1.ws.length v3.ca, .int .i64 h1.n, .slice v3.U h1.us.length v3.cu, .slice v3.V h1.l.length v3.cv] 31)) := b_w3.trans (a_w3_0.mono b_w3.size)
    obtain ⟨X3_c0, X3_c1, X3_c2, X3_c3, X3_f0, X3_f1, X3_f2, X3_f3⟩ := id X3.box
    go_wp2
    go_ret
    exact ⟨rfl, b_w3_0⟩
end Go.Proofs.YtogfbdeplogcfaaGreatDoor
