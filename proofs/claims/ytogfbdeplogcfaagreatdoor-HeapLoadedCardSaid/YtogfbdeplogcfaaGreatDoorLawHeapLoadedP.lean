/- parts ZT, Z47, Z49 -/
import Derived.Test.YtogfbdeplogcfaaGreatDoorMY19
set_option linter.unusedVariables false
set_option linter.unusedSimpArgs false
namespace Go.Proofs.YtogfbdeplogcfaaGreatDoor
open Go.RowKit
set_option maxRecDepth 100000

theorem asc_ext {s t : List Nat} (hs : s.Pairwise (· < ·)) (ht : t.Pairwise (· < ·)) (h : ∀ a, a ∈ s ↔ a ∈ t) : s = t := by
  induction s generalizing t with
  | nil =>
    cases t with
    | nil => rfl
    | cons b t => exact absurd ((h b).2 (by simp)) (by simp)
  | cons a s ih =>
    cases t with
    | nil => exact absurd ((h a).1 (by simp)) (by simp)
    | cons b t =>
      rw [List.pairwise_cons] at hs ht
      have e : a = b := by
        have h1 := (h a).1 (by simp)
        have h2 := (h b).2 (by simp)
        rw [List.mem_cons] at h1 h2
        rcases h1 with h1 | h1
        · exact h1
        · rcases h2 with h2 | h2
          · exact h2.symm
          · have := hs.1 b h2
            have := ht.1 a h1
            omega
      subst e
      rw [ih hs.2 ht.2 fun x => ?_]
      constructor
      · intro hx
        have := (h x).1 (by simp [hx])
        rw [List.mem_cons] at this
        rcases this with rfl | h1
        · exact absurd (hs.1 _ hx) (by omega)
        · exact h1
      · intro hx
        have := (h x).2 (by simp [hx])
        rw [List.mem_cons] at this
        rcases this with rfl | h1
        · exact absurd (ht.1 _ hx) (by omega)
        · exact h1
theorem addrs_asc {h : Hp} (hl : OkL h.l) : (addrs (cursH h)).Pairwise (· < ·) := by
  unfold addrs
  rw [List.pairwise_map]
  exact (cursH_asc hl).imp fun h => h
theorem addrs_ext {h h' : Hp} (hl : OkL h.l) (hl' : OkL h'.l) (e : ∀ a, Cur h a ↔ Cur h' a) : addrs (cursH h) = addrs (cursH h') :=
  asc_ext (addrs_asc hl) (addrs_asc hl') fun a => by rw [mem_addrs hl, mem_addrs hl', e]
end Go.Proofs.YtogfbdeplogcfaaGreatDoor
namespace Go.Proofs.YtogfbdeplogcfaaGreatDoor
open Go.RowKit
set_option maxRecDepth 100000

theorem StoE.facts {h : Hp} {a : Nat} {f : Int} {x : Nat} {r : Bool} {h' : Hp} (hE : StoE h a f x r h' 0) : OkH h ∧ OkH h' ∧ addrs (cursH h') = addrs (cursH h) ∧ ∀ b ∈ addrs (cursH h), ∃ n m, AtE h b n m 0 ∧ (0 ≤ n ∧ n ≤ 48) ∧ ∀ q : Nat, (q : Int) < n → ∃ x1 x2 rr, LoadE h b q x1 rr 0 ∧ LoadE h' b q x2 rr 0 ∧ x2 = if b = a ∧ (q : Int) = f then x else x1 := by
  have hE' := hE
  rcases hE with ⟨_, _, h2⟩ | ⟨_, _, h2, _⟩ | ⟨hk, hs, _, rfl⟩
  · cases h2
  · exact absurd rfl h2
  · have hk' := hE'.ok hk
    obtain ⟨j0, k0, hj0, hk0, hc0, ha0, e0, f0, f1, hb, hx⟩ := hs.zero hk
    obtain ⟨r1, r2, r3, r4, r5⟩ := cur_room hk hj0 hk0 hc0
    rw [ha0] at r1 r2 r3 r4 r5
    refine ⟨hk, hk', addrs_ext hk'.framed.spans hk.framed.spans (fun b => Iff.rfl), fun b hb => ?_⟩
    obtain ⟨j, k, hj, hk1, hc, rfl⟩ := cur_addr hk hb
    obtain ⟨s1, s2, s3, s4, s5⟩ := cur_room hk hj hk1 hc
    have hw : ∀ q, (stoH h (a + 1 + f.toNat) x).ws.getD q 0 = if q = a + 1 + f.toNat then x else h.ws.getD q 0 := fun q => getD_set _ _ _ _ (by omega)
    have one : ∀ q : Nat, q ≤ (unN (h.ws.getD (slA (nth h.l j) k) 0)).toNat → slA (nth h.l j) k + q = a + 1 + f.toNat → slA (nth h.l j) k = a := fun q hq e => by
      obtain ⟨rfl, rfl⟩ := slot_one hk.framed hj hk1 hj0 hk0 (i := a + 1 + f.toNat) (by omega) (by omega) (by omega) (by omega)
      exact ha0
    have head : (stoH h (a + 1 + f.toNat) x).ws.getD (slA (nth h.l j) k) 0 = h.ws.getD (slA (nth h.l j) k) 0 := by
      rw [hw, if_neg]
      intro e
      have := one 0 (Nat.zero_le _) (by omega)
      omega
    refine ⟨_, _, at_at hk hj hk1 hc, ⟨s2, s5⟩, fun q hq => ⟨_, (stoH h (a + 1 + f.toNat) x).ws.getD (slA (nth h.l j) k + 1 + q) 0, _, load_at hk hj hk1 hc q hq, ?_, ?_⟩⟩
    · have := load_at hk' (j := j) (k := k) hj hk1 hc q (by show _ < unN ((stoH h (a + 1 + f.toNat) x).ws.getD (slA (nth h.l j) k) 0); rw [head]; exact hq)
      have e2 : unM ((stoH h (a + 1 + f.toNat) x).ws.getD (slA (nth (stoH h (a + 1 + f.toNat) x).l j) k) 0) = unM (h.ws.getD (slA (nth h.l j) k) 0) := by
        show unM ((stoH h (a + 1 + f.toNat) x).ws.getD (slA (nth h.l j) k) 0) = _
        rw [head]
      rw [e2] at this
      exact this
    · rw [hw]
      by_cases e : slA (nth h.l j) k + 1 + q = a + 1 + f.toNat
      · have e2 := one (1 + q) (by omega) (by omega)
        rw [if_pos e, if_pos ⟨e2, by omega⟩]
      · rw [if_neg e, if_neg]
        rintro ⟨e2, e3⟩
        exact e (by omega)
end Go.Proofs.YtogfbdeplogcfaaGreatDoor
namespace Go.Proofs.YtogfbdeplogcfaaGreatDoor
open Go.RowKit
set_option maxRecDepth 100000

theorem hsameaddrs_any {w : World} {A C : Option Addr} {t : List Nat} (ca cc : Nat) (hl : t.length ≤ 17592186044416) (hr : Row w w.heap.size A t) (hq : Row w w.heap.size C t) :
    Calls Tryz.prog 37 #[.slice A t.length ca, .slice C t.length cc] w fun e w' => e = .returned (.bool true) ∧ Below w.heap.size w w' := by
  have HA := Lib.hid fun (w : World) h1 h2 => asame_ok t (by unfold maxLen; omega) w A C ca cc h1 h2
  go_enter Tryz.func37, Tryz.ntmps37
  go_wp2_with fail
  go_at_call 71
  refine (HA.out _ (hr.later (by repeat (first|exact bR _ _|assumption|refine bN ?_ _|refine bD ?_|refine bA ?_ (by first|omega|simp;omega|simp) _|refine bS ?_ (by first|omega|simp;omega|simp) _|refine bT ?_ (by assumption) (by first|omega|simp;omega|simp)))) (hq.later (by repeat (first|exact bR _ _|assumption|refine bN ?_ _|refine bD ?_|refine bA ?_ (by first|omega|simp;omega|simp) _|refine bS ?_ (by first|omega|simp;omega|simp) _|refine bT ?_ (by assumption) (by first|omega|simp;omega|simp))))).mono ?_
  rintro e w1 ⟨rfl, hb_w1⟩
  have b1 : Below w.heap.size w w1 := (by repeat (first|exact bR _ _|assumption|refine bN ?_ _|refine bD ?_|refine bA ?_ (by first|omega|simp;omega|simp) _|refine bS ?_ (by first|omega|simp;omega|simp) _|refine bT ?_ (by assumption) (by first|omega|simp;omega|simp)))
  go_wp2
  go_ret
  exact ⟨rfl, b1⟩
set_option maxHeartbeats 8000000 in
theorem heapLoaded_walk (v : Hv) (h : Hp) (a : Nat) (f : Int) (x : Nat) (r : Bool) (w : World) (hz : Sizes w) (hM : HM w w.heap.size v h) (hs : Short h) (hnil : v.V = none → v.cv = 0) (ha : a < W64) (hx : x < W64) :
    Calls Tryz.prog 7 #[hpV v h, .int .u64 (a : Nat), .int .i64 f, .int .u64 (x : Nat), .bool r] w fun e w' => e = .returned (.bool true) ∧ Below w.heap.size w w' := by
  have X0 := HIn.new hM 31
  obtain ⟨h2, y2, E2⟩ := StoE.ex h a f x r
  by_cases hy : y2 = 0
  · rw [hy] at E2
    obtain ⟨hk, hk2, hadr, FB⟩ := E2.facts
    have HSTO := Lib.hid fun (w : World) hz hM => zstoreH_any (w := w) (v := v) (h := h) hz hM (by have := hs.l; omega) hs.ws hnil a ha f x hx r h2 0 E2
    have hs2 := hk2.short
    have OB1 : ObjE h (addrs (cursH h)) 0 := .inr ⟨hk, rfl, rfl⟩
    have OB2 : ObjE h2 (addrs (cursH h)) 0 := .inr ⟨hk2, hadr.symm, rfl⟩
    have htl := addrs_len hk
    have hw := addrs_word hk
    generalize addrs (cursH h) = t at *
    have HO1 := Lib.hid fun (w : World) hz hM => zobjH_any (w := w) (v := v) (h := h) hz hM (by have := hs.l; omega) hs.ws t 0 OB1
    have HO2 := Lib.hid fun (w : World) (v : Hv) hz hM => zobjH_any (w := w) (v := v) (h := h2) hz hM (by have := hs2.l; omega) hs2.ws t 0 OB2
    have HC := Lib.hid fun (w : World) (v : Hv) hz hM => zcheck_any (w := w) (v := v) (h := h2) hz hM (by have := hs2.l; omega) hs2.ws 0 (.inl ⟨hk2, rfl⟩)
    have HSA := Lib.hid fun (w : World) (A C : Option Addr) (ca cc : Nat) hr hq => hsameaddrs_any (w := w) (A := A) (C := C) (t := t) ca cc (by omega) hr hq
    have HAT := Lib.hid fun (w : World) (b n m) hz hM (hb : b < W64) hE => zat_any (w := w) (v := v) (h := h) hz hM (by have := hs.l; omega) hs.ws b hb n m 0 hE
    have HL1 := Lib.hid fun (w : World) (b : Nat) (f : Int) (x : Nat) (r : Bool) hz hM (hb : b < W64) hE => zload_any (w := w) (v := v) (h := h) hz hM (by have := hs.l; omega) hs.ws b hb f x r 0 hE
    have HL2 := Lib.hid fun (w : World) (v : Hv) (b : Nat) (f : Int) (x : Nat) (r : Bool) hz hM (hb : b < W64) hE => zload_any (w := w) (v := v) (h := h2) hz hM (by have := hs2.l; omega) hs2.ws b hb f x r 0 hE
    have HFB := Lib.hid FB
    have HWD := Lib.hid hw
    have HTL := Lib.hid htl
    unfold FreshH at HSTO
    unfold FreshW at HO1 HO2
    clear E2 hy y2 hk hk2 hadr FB hs2 OB1 OB2 hw htl hs hM hnil
    unfold hpV hpv at HC HO1 HO2 HSTO HAT HL1 HL2 ⊢
    go_enter Tryz.func7, Tryz.ntmps7
    go_wp2_with fail
    go_at_call 19
    refine (hlives_any _ (hz.later (by repeat (first|exact bR _ _|assumption|refine bN ?_ _|refine bD ?_|refine bA ?_ (by first|omega|simp;omega|simp) _|refine bS ?_ (by first|omega|simp;omega|simp) _|refine bT ?_ (by assumption) (by first|omega|simp;omega|simp))))).mono ?_
    rintro e w1 ⟨rfl, hb_w1⟩
    have b_w1 : Below w.heap.size w w1 := (by repeat (first|exact bR _ _|assumption|refine bN ?_ _|refine bD ?_|refine bA ?_ (by first|omega|simp;omega|simp) _|refine bS ?_ (by first|omega|simp;omega|simp) _|refine bT ?_ (by assumption) (by first|omega|simp;omega|simp)))
    replace X0 := X0.later hb_w1
    obtain ⟨X0_c0, X0_c1, X0_c2, X0_c3, X0_f0, X0_f1, X0_f2, X0_f3⟩ := id X0.box
    go_wp2_with fail
    go_at_call 27
    refine (HSTO.out _ (hz.later (by exact b_w1)) X0.m).mono ?_
    rintro e w3 ⟨v3, rfl, o3, hb_w3⟩
    clear X0_c0 X0_c1 X0_c2 X0_c3 X0_f0 X0_f1 X0_f2 X0_f3
    have b_w3 : Below w.heap.size w w3 := b_w1.trans (hb_w3.mono b_w1.size)
    replace X0 := X0.later hb_w3
    have a_w3_0 : Below w3.heap.size w3 (w3.alloc (.cells #[.slice v3.A h2.ws.length v3.ca, .int .i64 h2.n, .slice v3.U h2.us.length v3.cu, .slice v3.V h2.l.length v3.cv] 31)) := Below.alloc (Below.refl _ _) (Nat.le_refl _) _
    replace X0 := X0.later a_w3_0
    have X3 := HIn.new o3.hm 31
    have b_w3_0 : Below w.heap.size w (w3.alloc (.cells #[.slice v3.A h2.ws.length v3.ca, .int .i64 h2.n, .slice v3.U h2.us.length v3.cu, .slice v3.V h2.l.length v3.cv] 31)) := b_w3.trans (a_w3_0.mono b_w3.size)
    obtain ⟨X0_c0, X0_c1, X0_c2, X0_c3, X0_f0, X0_f1, X0_f2, X0_f3⟩ := id X0.box
    go_wp2_with fail
    go_at_call 35
    refine (HO1.out _ (hz.later (by exact b_w3_0)) (by exact X0.m)).mono ?_
    rintro e w4 ⟨A4, c4, rfl, o4, hb_w4⟩
    clear X0_c0 X0_c1 X0_c2 X0_c3 X0_f0 X0_f1 X0_f2 X0_f3
    have b_w4 : Below w.heap.size w w4 := b_w3_0.trans (hb_w4.mono b_w3_0.size)
    replace X0 := X0.later hb_w4
    replace X3 := X3.later hb_w4
    have R4 := o4.row
    clear o3 o4
    go_wp2_with fail
    go_loopw [48] (fun ii wr => ∃ k : Nat, ii = .int .i64 (k : Nat) ∧ k ≤ t.length ∧ HIn wr w.heap.size v h ∧ HIn wr w3.heap.size v3 h2 ∧ Row wr wr.heap.size A4 t ∧ Below w.heap.size w wr) (fun ii _ => t.length - (intOf ii).toNat)
    case atStart => exact ⟨0, rfl, Nat.zero_le _, X0, X3, R4, b_w4⟩
    case round =>
      clear X0 X3 R4 b_w4
      obtain ⟨k, rfl, hk, X0, X3, R4, b_wr⟩ := hrel
      by_cases hlt : k < t.length
      · obtain ⟨bl, off, rfl, hbl, hc4⟩ := R4.at_ (by omega)
        have q4 := hc4 k hlt
        have hmem : t.getD k 0 ∈ t := by rw [List.getD_eq_getElem?_getD, List.getElem?_eq_getElem hlt]; exact List.getElem_mem hlt
        have hb64 := HWD.out _ hmem
        obtain ⟨n, m, EA, hn, FQ⟩ := HFB.out _ hmem
        generalize t.getD k 0 = b at *
        have HFQ := Lib.hid FQ
        have j0 : (0 : Int) ≤ (k : Int) := by omega
        have j1 : (k : Int) < (t.length : Int) := by omega
        have HN := Lib.hid hn
        clear hc4 hmem FQ hn
        obtain ⟨X0_c0, X0_c1, X0_c2, X0_c3, X0_f0, X0_f1, X0_f2, X0_f3⟩ := id X0.box
        go_wp2_with fail
        go_at_call 23
        refine (HAT.out _ _ _ _ (hz.later (by exact b_wr)) (by exact X0.m) hb64 EA).mono ?_
        rintro e w5 ⟨rfl, hb_w5⟩
        clear X0_c0 X0_c1 X0_c2 X0_c3 X0_f0 X0_f1 X0_f2 X0_f3
        have b_w5 : Below w.heap.size w w5 := b_wr.trans (hb_w5.mono b_wr.size)
        replace X0 := X0.later hb_w5
        replace X3 := X3.later hb_w5
        replace R4 := R4.later hb_w5
        have a_w5_0 : Below w5.heap.size w5 (w5.alloc (.cells #[.int .i64 n, .int .u64 (m : Nat)] 34)) := Below.alloc (Below.refl _ _) (Nat.le_refl _) _
        replace X0 := X0.later a_w5_0
        replace X3 := X3.later a_w5_0
        replace R4 := R4.later a_w5_0
        have P5 := Two.new w5 (.int .i64 n) (.int .u64 (m : Nat)) 34
        have b_w5_0 : Below w.heap.size w (w5.alloc (.cells #[.int .i64 n, .int .u64 (m : Nat)] 34)) := b_w5.trans (a_w5_0.mono b_w5.size)
        clear q4 j0 j1 EA
        obtain ⟨P5_c0, P5_c1, P5_f0⟩ := id P5
        go_wp2_with fail
        generalize wr = wA at *
        have hn0 := HN.out
        obtain ⟨N, rfl⟩ : ∃ N : Nat, n = (N : Int) := ⟨n.toNat, by omega⟩
        go_loopw [19] (fun ii wr => ∃ q : Nat, ii = .int .i64 (q : Nat) ∧ q ≤ N ∧ HIn wr w.heap.size v h ∧ HIn wr w3.heap.size v3 h2 ∧ Row wr wr.heap.size (some ⟨bl, off, none⟩) t ∧ Two wr w5.heap.size (.int .i64 (N : Nat)) (.int .u64 (m : Nat)) ∧ Below w.heap.size w wr) (fun ii _ => N - (intOf ii).toNat)
        case atStart => exact ⟨0, rfl, Nat.zero_le _, X0, X3, R4, P5, b_w5_0⟩
        case round =>
          clear X0 X3 R4 P5 P5_c0 P5_c1 P5_f0 b_w5_0
          obtain ⟨q, rfl, hq, X0, X3, R4, P5, b_wr⟩ := hrel
          by_cases hql : q < N
          · obtain ⟨x1, x2, rr, E1, E2, hx2⟩ := HFQ.out q (by omega)
            have jq : (q : Int) < (N : Int) := by omega
            obtain ⟨X0_c0, X0_c1, X0_c2, X0_c3, X0_f0, X0_f1, X0_f2, X0_f3⟩ := id X0.box
            obtain ⟨P5_c0, P5_c1, P5_f0⟩ := id P5
            clear X0_c0 X0_c1 X0_c2 X0_c3 X0_f0 X0_f1 X0_f2 X0_f3 P5_c0 P5_c1 P5_f0
            obtain ⟨X0_c0, X0_c1, X0_c2, X0_c3, X0_f0, X0_f1, X0_f2, X0_f3⟩ := id X0.box
            obtain ⟨P5_c0, P5_c1, P5_f0⟩ := id P5
            go_wp2_with fail
            go_at_call 25
            refine (HL1.out _ _ _ _ _ (hz.later (by exact b_wr)) (by exact X0.m) hb64 E1).mono ?_
            rintro e w6 ⟨rfl, hb_w6⟩
            clear X0_c0 X0_c1 X0_c2 X0_c3 X0_f0 X0_f1 X0_f2 X0_f3 P5_c0 P5_c1 P5_f0
            have b_w6 : Below w.heap.size w w6 := b_wr.trans (hb_w6.mono b_wr.size)
            replace X0 := X0.later hb_w6
            replace X3 := X3.later hb_w6
            replace R4 := R4.later hb_w6
            replace P5 := P5.later hb_w6
            obtain ⟨X3_c0, X3_c1, X3_c2, X3_c3, X3_f0, X3_f1, X3_f2, X3_f3⟩ := id X3.box
            go_wp2_with fail
            go_at_call 25
            refine (HL2.out _ _ _ _ _ _ (hz.later (by exact b_w6)) (by exact X3.m) hb64 E2).mono ?_
            rintro e w7 ⟨rfl, hb_w7⟩
            clear X3_c0 X3_c1 X3_c2 X3_c3 X3_f0 X3_f1 X3_f2 X3_f3
            have b_w7 : Below w.heap.size w w7 := b_w6.trans (hb_w7.mono b_w6.size)
            replace X0 := X0.later hb_w7
            replace X3 := X3.later hb_w7
            replace R4 := R4.later hb_w7
            replace P5 := P5.later hb_w7
            obtain ⟨X0_c0, X0_c1, X0_c2, X0_c3, X0_f0, X0_f1, X0_f2, X0_f3⟩ := id X0.box
            clear E1 E2
            by_cases e1 : b = a ∧ (q : Int) = f
            · have hxx : x = x2 := by rw [if_pos e1] at hx2; exact hx2.symm
              subst hxx
              obtain ⟨e2, e3⟩ := e1
              have d1 : (((b : Nat) : Int) == ((a : Nat) : Int)) = true := by rw [e2]; simp
              have d2 : ((q : Int) == f) = true := by rw [e3]; simp
              clear e2 e3 hx2
              go_wp2
              go_roundw
              case rel => exact ⟨q + 1, by go_num, by omega, X0, X3, R4, P5, b_w7⟩
              case measure => simp [intOf]; omega
            · have hxx : x1 = x2 := by rw [if_neg e1] at hx2; exact hx2.symm
              subst hxx
              clear hx2
              by_cases e2 : b = a
              · have d1 : (((b : Nat) : Int) == ((a : Nat) : Int)) = true := by rw [e2]; simp
                have d2 : ((q : Int) == f) = false := by simp; exact fun e => e1 ⟨e2, e⟩
                clear e1 e2
                go_wp2
                go_roundw
                case rel => exact ⟨q + 1, by go_num, by omega, X0, X3, R4, P5, b_w7⟩
                case measure => simp [intOf]; omega
              · have d1 : (((b : Nat) : Int) == ((a : Nat) : Int)) = false := by simp; omega
                clear e1 e2
                go_wp2
                go_roundw
                case rel => exact ⟨q + 1, by go_num, by omega, X0, X3, R4, P5, b_w7⟩
                case measure => simp [intOf]; omega
          · obtain rfl : q = N := by omega
            have htl2 := HTL.out
            obtain ⟨p0, p1, pf⟩ := id P5
            go_wp2
            go_roundw
            case rel => exact ⟨k + 1, by go_num, by omega, X0, X3, R4, b_wr⟩
            case measure => simp [intOf]; omega
      · obtain rfl : k = t.length := by omega
        obtain ⟨X3_c0, X3_c1, X3_c2, X3_c3, X3_f0, X3_f1, X3_f2, X3_f3⟩ := id X3.box
        go_wp2_with fail
        go_at_call 35
        refine (HO2.out _ _ (hz.later (by exact b_wr)) (by exact X3.m)).mono ?_
        rintro e w8 ⟨A8, c8, rfl, o8, hb_w8⟩
        clear X3_c0 X3_c1 X3_c2 X3_c3 X3_f0 X3_f1 X3_f2 X3_f3
        have b_w8 : Below w.heap.size w w8 := b_wr.trans (hb_w8.mono b_wr.size)
        replace X0 := X0.later hb_w8
        replace X3 := X3.later hb_w8
        replace R4 := R4.later hb_w8
        have R8 := o8.row
        clear o8
        obtain ⟨X3_c0, X3_c1, X3_c2, X3_c3, X3_f0, X3_f1, X3_f2, X3_f3⟩ := id X3.box
        go_wp2_with fail
        go_at_call 37
        refine (HSA.out _ _ _ _ _ (by exact R4) (by exact R8)).mono ?_
        rintro e w9 ⟨rfl, hb_w9⟩
        clear X3_c0 X3_c1 X3_c2 X3_c3 X3_f0 X3_f1 X3_f2 X3_f3
        have b_w9 : Below w.heap.size w w9 := b_w8.trans (hb_w9.mono b_w8.size)
        replace X0 := X0.later hb_w9
        replace X3 := X3.later hb_w9
        replace R4 := R4.later hb_w9
        replace R8 := R8.later hb_w9
        obtain ⟨X3_c0, X3_c1, X3_c2, X3_c3, X3_f0, X3_f1, X3_f2, X3_f3⟩ := id X3.box
        go_wp2_with fail
        go_at_call 21
        refine (HC.out _ _ (hz.later (by exact b_w9)) (by exact X3.m)).mono ?_
        rintro e w10 ⟨rfl, hb_w10⟩
        clear X3_c0 X3_c1 X3_c2 X3_c3 X3_f0 X3_f1 X3_f2 X3_f3
        have b_w10 : Below w.heap.size w w10 := b_w9.trans (hb_w10.mono b_w9.size)
        replace X0 := X0.later hb_w10
        replace X3 := X3.later hb_w10
        replace R4 := R4.later hb_w10
        replace R8 := R8.later hb_w10
        go_wp2
        go_ret
        exact ⟨rfl, b_w10⟩
  · have d3 : (y2 != (0 : Int)) = true := by simpa using hy
    have HSTO := Lib.hid fun (w : World) hz hM => zstoreH_any (w := w) (v := v) (h := h) hz hM (by have := hs.l; omega) hs.ws hnil a ha f x hx r h2 y2 E2
    unfold FreshH at HSTO
    clear E2 hs hM hnil hy
    unfold hpV hpv at HSTO ⊢
    go_enter Tryz.func7, Tryz.ntmps7
    go_wp2_with fail
    go_at_call 19
    refine (hlives_any _ (hz.later (by repeat (first|exact bR _ _|assumption|refine bN ?_ _|refine bD ?_|refine bA ?_ (by first|omega|simp;omega|simp) _|refine bS ?_ (by first|omega|simp;omega|simp) _|refine bT ?_ (by assumption) (by first|omega|simp;omega|simp))))).mono ?_
    rintro e w1 ⟨rfl, hb_w1⟩
    have b_w1 : Below w.heap.size w w1 := (by repeat (first|exact bR _ _|assumption|refine bN ?_ _|refine bD ?_|refine bA ?_ (by first|omega|simp;omega|simp) _|refine bS ?_ (by first|omega|simp;omega|simp) _|refine bT ?_ (by assumption) (by first|omega|simp;omega|simp)))
    replace X0 := X0.later hb_w1
    obtain ⟨X0_c0, X0_c1, X0_c2, X0_c3, X0_f0, X0_f1, X0_f2, X0_f3⟩ := id X0.box
    go_wp2_with fail
    go_at_call 27
    refine (HSTO.out _ (hz.later (by exact b_w1)) X0.m).mono ?_
    rintro e w3 ⟨v3, rfl, o3, hb_w3⟩
    clear X0_c0 X0_c1 X0_c2 X0_c3 X0_f0 X0_f1 X0_f2 X0_f3
    have b_w3 : Below w.heap.size w w3 := b_w1.trans (hb_w3.mono b_w1.size)
    replace X0 := X0.later hb_w3
    have a_w3_0 : Below w3.heap.size w3 (w3.alloc (.cells #[.slice v3.A h2.ws.length v3.ca, .int .i64 h2.n, .slice v3.U h2.us.length v3.cu, .slice v3.V h2.l.length v3.cv] 31)) := Below.alloc (Below.refl _ _) (Nat.le_refl _) _
    replace X0 := X0.later a_w3_0
    have X3 := HIn.new o3.hm 31
    have b_w3_0 : Below w.heap.size w (w3.alloc (.cells #[.slice v3.A h2.ws.length v3.ca, .int .i64 h2.n, .slice v3.U h2.us.length v3.cu, .slice v3.V h2.l.length v3.cv] 31)) := b_w3.trans (a_w3_0.mono b_w3.size)
    obtain ⟨X3_c0, X3_c1, X3_c2, X3_c3, X3_f0, X3_f1, X3_f2, X3_f3⟩ := id X3.box
    go_wp2
    go_ret
    exact ⟨rfl, b_w3_0⟩
end Go.Proofs.YtogfbdeplogcfaaGreatDoor
