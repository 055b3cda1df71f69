/- Parts of the proof. -/
import Derived.Test.YtkfmbhlefppkhaaGreatDoorScavQ16
import Derived.Deep.RegionHeld3
set_option maxRecDepth 100000
set_option linter.unusedVariables false
set_option linter.unusedSimpArgs false
namespace Go.Proofs.YtkfmbhlefppkhaaGreatDoor
open Go.RowKit
set_option maxHeartbeats 8000000 in
theorem plainH_any {w : World} {v : Hv} {h : Hp} (hM : HM w w.heap.size v h) (hF : Framed h) (hnil : v.V = none → v.cv = 0) :
    Calls Tryz.prog 134 #[hpV v h] w fun e w' => ∃ v', e = .returned (hpV v' h) ∧ OwnsH w' w.heap.size v' h ∧ Below w.heap.size w w' := by
  obtain ⟨vs0, hvs, hvr, hrs⟩ := hM.v.vals
  have hl256 := hF.spans.1
  have hww := hF.words
  have hlen0 : vs0.length = h.l.length := sds_len hvs
  have hA0 : v.A = none → v.ca = 0 := fun e => by
    have := hF.long
    have := hF.some_
    obtain ⟨b, off, e2, _⟩ := hM.a.at_ (by omega)
    rw [e] at e2; cases e2
  have hU0 : v.U = none → v.cu = 0 := fun e => by
    have h1 := hF.pages.2.2.1
    have h2 := hF.some_
    obtain ⟨b, off, e2, _⟩ := hM.u.at_ (by omega)
    rw [e] at e2; cases e2
  have hul : h.us.length ≤ 17592186044416 := by have h1 := hF.pages.2.2.1; have h2 := hF.pages.2.1; omega
  have HW : Hid (∀ x ∈ vs0, x.d.aw.length = 1 ∧ x.d.mw.length = 1) := Lib.hid (fun x hx => by
    have : x.d ∈ h.l := by rw [← hvs]; exact List.mem_map.2 ⟨x, hx, rfl⟩
    exact hF.spans.words _ this)
  have HCA := Lib.hid fun (w : World) (hr : Row w w.heap.size v.A h.ws) => wclone_any (w := w) (A := v.A) (t := h.ws) v.ca hr (by omega) hA0
  have HCU := Lib.hid fun (w : World) (hr : Row w w.heap.size v.U h.us) => wclone_any (w := w) (A := v.U) (t := h.us) v.cu hr hul hU0
  have HCS := Lib.hid fun (w : World) (hr : VRow w v.V vs0) => sclone_any (w := w) (A := v.V) v.cv h.l.length vs0 hr hlen0 (by omega) hnil
  have HVS := Lib.hid hvs
  have HLN := Lib.hid hlen0
  have HRS := Lib.hid hrs
  have HL := Lib.hid hl256
  have HMA := Lib.hid hM.a
  have HMU := Lib.hid hM.u
  have HVR := Lib.hid hvr
  clear hF hM hvs hrs hvr hA0 hU0 hul hww hnil hlen0
  unfold CopiedN at HCA HCU
  unfold hpV hpv
  go_enter Tryz.func134, Tryz.ntmps134
  go_wp2_with fail
  go_at_call 155
  refine (HCA.out _ (HMA.out.later bX)).mono ?_
  rintro e w1 ⟨A1, c1, rfl, oA, hb_w1⟩
  obtain ⟨hc_w1, hf_w1⟩ := bcell hb_w1; have hz_w1_w_0 : w.heap.size < w1.heap.size := lY hb_w1.size; have hz_w1_w_1 : w.heap.size + 1 < w1.heap.size := lY hb_w1.size; have hs_w1 := hb_w1.size; (try simp only [zZ] at hs_w1)
  have hB0 : B4 (w.alloc (.cells #[.slice v.A h.ws.length v.ca, .int .i64 h.n, .slice v.U h.us.length v.cu, .slice v.V h.l.length v.cv] 31)) w.heap.size _ _ _ _ := B4.new _ _ _ _ _ _
  have hBx := ((hB0.later (Below.alloc (Below.refl _ _) (Nat.le_refl _) (.cells #[.slice none 0 0, .int .i64 0, .slice none 0 0, .slice none 0 0] 31))).later hb_w1)
  have hR0 := (B4.new (w.alloc (.cells #[.slice v.A h.ws.length v.ca, .int .i64 h.n, .slice v.U h.us.length v.cu, .slice v.V h.l.length v.cv] 31)) (.slice none 0 0) (.int .i64 0) (.slice none 0 0) (.slice none 0 0) 31).later hb_w1
  simp only [zA] at oA hR0
  have hbA : Below w.heap.size w w1 := bX
  have hs1 := hR0.lt
  obtain ⟨b0, b1, b2, b3, f0, f1, f2, f3⟩ := id hBx
  clear hc_w1 hf_w1 hB0
  have oA2 := oA.own.far (p := ⟨w.heap.size, 0, none⟩) (.inl (by show w.heap.size < w.heap.size + 1 + 1; omega)) (.slice A1 h.ws.length c1)
  have hBx2 := hBx.set0 (.slice A1 h.ws.length c1)
  have hR2 := hR0.far (p := ⟨w.heap.size, 0, none⟩) (by show w.heap.size ≠ w.heap.size + 1; omega) (.slice A1 h.ws.length c1)
  have hb2 : Below w.heap.size w (w1.setCell ⟨w.heap.size, 0, none⟩ (.slice A1 h.ws.length c1)) := hbA.setCell (p := ⟨w.heap.size, 0, none⟩) (Nat.le_refl _) _
  go_wp2_with fail
  clear b0 b1 b2 b3 f0 f1 f2 f3 hb_w1 hBx hR0 hbA hs1 hs_w1 hz_w1_w_0 hz_w1_w_1 oA
  generalize w1.setCell ⟨w.heap.size, 0, none⟩ (.slice A1 h.ws.length c1) = wa at *
  have hza := hR2.lt
  go_at_call 155
  refine (HCU.out _ (HMU.out.later hb2)).mono ?_
  rintro e w2 ⟨U1, cu1, rfl, oU, hb_w2⟩
  have oA3 := oA2.later hb_w2
  have hBx3 := hBx2.later hb_w2
  have hR3 := hR2.later hb_w2
  have hb3 : Below w.heap.size w w2 := hb2.trans (hb_w2.mono hb2.size)
  clear oA2 hBx2 hR2 hb2
  have oA4 := oA3.far (p := ⟨w.heap.size, 2, none⟩) (.inl (by show w.heap.size < w.heap.size + 1 + 1; omega)) (.slice U1 h.us.length cu1)
  have oU4 := oU.own.far (p := ⟨w.heap.size, 2, none⟩) (.inl (by show w.heap.size < wa.heap.size; omega)) (.slice U1 h.us.length cu1)
  have hBx4 := hBx3.set2 (.slice U1 h.us.length cu1)
  have hR4 := hR3.far (p := ⟨w.heap.size, 2, none⟩) (by show w.heap.size ≠ w.heap.size + 1; omega) (.slice U1 h.us.length cu1)
  have hb4 : Below w.heap.size w (w2.setCell ⟨w.heap.size, 2, none⟩ (.slice U1 h.us.length cu1)) := hb3.setCell (p := ⟨w.heap.size, 2, none⟩) (Nat.le_refl _) _
  obtain ⟨b0, b1, b2, b3, f0, f1, f2, f3⟩ := id hBx3
  go_wp2_with fail
  clear b0 b1 b2 b3 f0 f1 f2 f3 hb_w2 hBx3 hR3 hb3 oA3 oU
  generalize w2.setCell ⟨w.heap.size, 2, none⟩ (.slice U1 h.us.length cu1) = wb at *
  have hzb := hR4.lt
  have hwb := hb4.size
  have HA4 := Lib.hid oA4
  have HU4 := Lib.hid oU4
  go_at_call 156
  refine (HCS.out _ (HVR.out.later hb4)).mono ?_
  rintro e w3 ⟨S1, cs1, rfl, oS, hb_w3⟩
  have oA5 := oA4.later hb_w3
  have oU5 := (oU4.mono (B' := w.heap.size + 1 + 1) (by omega)).later hb_w3
  have hBx5 := hBx4.later hb_w3
  have hR5 := hR4.later hb_w3
  have hb5 : Below w.heap.size w w3 := hb4.trans (hb_w3.mono hb4.size)
  have oA6 := oA5.far (p := ⟨w.heap.size, 3, none⟩) (.inl (by show w.heap.size < w.heap.size + 1 + 1; omega)) (.slice S1 h.l.length cs1)
  have oU6 := oU5.far (p := ⟨w.heap.size, 3, none⟩) (.inl (by show w.heap.size < w.heap.size + 1 + 1; omega)) (.slice S1 h.l.length cs1)
  have hBx6 := hBx5.set3 (.slice S1 h.l.length cs1)
  have hR6 := hR5.far (p := ⟨w.heap.size, 3, none⟩) (by show w.heap.size ≠ w.heap.size + 1; omega) (.slice S1 h.l.length cs1)
  have hb6 : Below w.heap.size w (w3.setCell ⟨w.heap.size, 3, none⟩ (.slice S1 h.l.length cs1)) := hb5.setCell (p := ⟨w.heap.size, 3, none⟩) (Nat.le_refl _) _
  have hs36 := hb_w3.size
  have oS6 : (w3.setCell ⟨w.heap.size, 3, none⟩ (.slice S1 h.l.length cs1)).ownsRow wb.heap.size 99 8 (.slice S1 h.l.length cs1) h.l.length (flat8 vs0) := oS.kept (grown_setg _ _ _ _) (.inr (by
    intro e
    obtain ⟨_, ⟨e1, _⟩ | ⟨q, _, _, e1, e2, _⟩⟩ := id oS
    · injection e1 with e1; subst e1; cases e
    · injection e1 with e1; subst e1; simp [Value.ownBlock] at e; omega))
  obtain ⟨b0, b1, b2, b3, f0, f1, f2, f3⟩ := id hBx5
  go_wp2_with fail
  clear b0 b1 b2 b3 f0 f1 f2 f3 hb_w3 hBx5 hR5 hb5 oA5 oU5 hBx4 hR4 hb4 oA4 oU4 oS
  have hs6 : wb.heap.size ≤ (w3.setCell ⟨w.heap.size, 3, none⟩ (.slice S1 h.l.length cs1)).heap.size := by rw [World.size_setCell]; exact hs36
  obtain ⟨n, hn⟩ : ∃ n, h.l.length = n := ⟨_, rfl⟩
  generalize w3.setCell ⟨w.heap.size, 3, none⟩ (.slice S1 h.l.length cs1) = wS at *
  rw [hn] at HL HLN hBx6 oS6 ⊢
  have hn6 : n ≤ 256 := HL.out
  have HN := Lib.hid hn
  clear hn
  have hR7 := Lib.hid hR6
  have hBx7 := Lib.hid hBx6
  clear hR6
  obtain ⟨b0, b1, b2, b3, f0, f1, f2, f3⟩ := hBx6
  by_cases h0 : n = 0
  · subst h0
    have hv : vs0 = [] := List.eq_nil_of_length_eq_zero HLN.out
    subst hv
    go_wp2_with fail
    clear b0 b1 b2 b3 f0 f1 f2 f3
    go_loopw [26] (fun ii wr => ii = .int .i64 0 ∧ wr = wS) (fun ii _ => 0 - (intOf ii).toNat)
    case atStart => exact ⟨rfl, rfl⟩
    case round =>
      obtain ⟨rfl, rfl⟩ := hrel
      obtain ⟨b0, b1, b2, b3, f0, f1, f2, f3⟩ := hBx7.out
      obtain ⟨r0, r1, r2, r3, t0, t1, t2, t3⟩ := hR7.out
      go_wp2
      have hF := (((hR7.out.set0 (.slice A1 h.ws.length c1)).set1 (.int .i64 h.n)).set2 (.slice U1 h.us.length cu1)).set3 (.slice S1 0 cs1)
      refine bodyPost_ret (res_hpc rfl rfl hF) rfl ?_
      refine ⟨⟨A1, c1, U1, cu1, S1, cs1⟩, by rw [HN.out], ?_, ?_⟩
      · have hO : OwnsH wr (w.heap.size + 1 + 1) ⟨A1, c1, U1, cu1, S1, cs1⟩ h := ⟨oA6, oU6, [], HVS.out, by rw [HN.out]; exact (⟨rfl, oS6, fun v hv => (by cases hv), fun v hv => (by cases hv)⟩ : OwnsS wr wb.heap.size S1 0 cs1 []).mono (by omega)⟩
        exact (((((hO.far (p := ⟨w.heap.size + 1, 0, none⟩) (Nat.lt_succ_self _) _).far (p := ⟨w.heap.size + 1, 1, none⟩) (Nat.lt_succ_self _) _).far (p := ⟨w.heap.size + 1, 2, none⟩) (Nat.lt_succ_self _) _).far (p := ⟨w.heap.size + 1, 3, none⟩) (Nat.lt_succ_self _) _)).mono (by omega)
      · iterate 4 (refine Below.setCell ?_ (by show _ ≤ w.heap.size + 1; omega) _)
        exact hb6
  · obtain ⟨_, ⟨h1, h2⟩ | ⟨g, cap', cur, e, hgB, _⟩⟩ := id oS6
    · exact absurd h2 h0
    · injection e with e1 _ e3
      subst e1 e3
      have hgl : g < wS.heap.size := (oS6.lt g rfl).2
      have HB0 := Lib.hid hgB
      go_wp2_with fail
      clear b0 b1 b2 b3 f0 f1 f2 f3
      go_loopw [26] (fun ii wr => ∃ k : Nat, ii = .int .i64 (k : Nat) ∧ k ≤ n ∧ ∃ vs : List Sv, CopK wr wb.heap.size g n cs1 vs0 vs k ∧ g < wr.heap.size ∧ Below wb.heap.size wS wr) (fun ii _ => n - (intOf ii).toNat)
      case atStart => exact ⟨0, rfl, Nat.zero_le _, vs0, ⟨HLN.out, rfl, fun j hj _ => List.getElem?_eq_getElem hj, oS6, fun j hj hj0 => by omega⟩, hgl, Below.refl _ _⟩
      case round =>
        clear oS6 hgl
        obtain ⟨k, rfl, hk, vs, hK, hgl, hbS⟩ := hrel
        have hsS := hbS.size
        have hbw : Below w.heap.size w wr := hb6.trans (hbS.mono hwb)
        have hswr : w.heap.size ≤ wr.heap.size := hbw.size
        obtain ⟨b0, b1, b2, b3, f0, f1, f2, f3⟩ := hBx7.out.below hbS (by omega)
        by_cases hlt : k < n
        · have hkl : k < vs.length := by rw [hK.len]; exact hlt
          have hrest := hK.rest k hkl (Nat.le_refl _)
          have hmem : vs[k] ∈ vs0 := List.mem_of_getElem? hrest
          obtain ⟨la, lm⟩ := HW.out _ hmem
          obtain ⟨ra, rm⟩ := HRS.out _ hmem
          have c8 := sp8_of_owns hK.row_ hK.len k hlt
          obtain ⟨xa, hxa⟩ := len_one la
          obtain ⟨xm, hxm⟩ := len_one lm
          have q4 := c8.c4
          have q6 := c8.c6
          rw [la, Nat.zero_add] at q4
          rw [lm, Nat.zero_add] at q6
          rw [hxa] at ra
          rw [hxm] at rm
          have fz := fun i => hK.row_.frozenAt i
          have g4 := fz (k * 8 + 4)
          have g6 := fz (k * 8 + 6)
          have HK := Lib.hid hK
          obtain ⟨x, HV⟩ : ∃ x, Hid (vs[k] = x) := ⟨vs[k], Lib.hid rfl⟩
          rw [HV.out] at ra rm q4 q6 hxa hxm
          have HXA := Lib.hid hxa
          have HXM := Lib.hid hxm
          have ra := ra.later hbw
          clear hK fz c8 hmem hrest la lm hxa hxm
          obtain ⟨d, A, ca, M, cm⟩ := x
          simp only at *
          have i1 : (k : Int) < (n : Int) := by omega
          have i2 : (0 : Int) ≤ (k : Int) := by omega
          go_wp2_with fail
          go_at_call 155
          refine (wclone1 ra).mono ?_
          rintro e w5 ⟨A5, c5, rfl, o5, hb_w5⟩
          have hs5 := hb_w5.size
          have p4 : w5.cell? ⟨g, k * 8 + 4, none⟩ = some (.slice A 1 ca) := (hb_w5.cell (p := ⟨g, k * 8 + 4, none⟩) hgl).trans q4
          have g4' : w5.frozen? ⟨g, k * 8 + 4, none⟩ = false := ((bcell hb_w5).2 _ _ hgl).trans g4
          have p6 : w5.cell? ⟨g, k * 8 + 6, none⟩ = some (.slice M 1 cm) := (hb_w5.cell (p := ⟨g, k * 8 + 6, none⟩) hgl).trans q6
          have g6' : w5.frozen? ⟨g, k * 8 + 6, none⟩ = false := ((bcell hb_w5).2 _ _ hgl).trans g6
          have bS5 : Below wb.heap.size wS w5 := hbS.trans (hb_w5.mono (by omega))
          have b5 : Below w.heap.size w w5 := hbw.trans (hb_w5.mono hswr)
          have ro5 := ((owns_laterN HK.out.row_ hb_w5).stored (k * 8 + 4) (.slice A5 1 c5)).1
          have wo5 : ∀ j (hj : j < vs.length), j < k → Own (w5.setCell ⟨g, k * 8 + 4, none⟩ (.slice A5 1 c5)) (g + 1) vs[j].A vs[j].d.aw ∧ Own (w5.setCell ⟨g, k * 8 + 4, none⟩ (.slice A5 1 c5)) (g + 1) vs[j].M vs[j].d.mw := fun j hj hjk =>
            ⟨((HK.out.words j hj hjk).1.later hb_w5).far (.inl (Nat.lt_succ_self g)) _, ((HK.out.words j hj hjk).2.later hb_w5).far (.inl (Nat.lt_succ_self g)) _⟩
          have o5' : Own (w5.setCell ⟨g, k * 8 + 4, none⟩ (.slice A5 1 c5)) (g + 1) A5 [xa] := (o5.own.mono (by omega)).far (.inl (Nat.lt_succ_self g)) _
          have bS6 : Below wb.heap.size wS (w5.setCell ⟨g, k * 8 + 4, none⟩ (.slice A5 1 c5)) := bS5.setCell (p := ⟨g, k * 8 + 4, none⟩) HB0.out _
          have b6 : Below w.heap.size w (w5.setCell ⟨g, k * 8 + 4, none⟩ (.slice A5 1 c5)) := b5.setCell (p := ⟨g, k * 8 + 4, none⟩) (Nat.le_trans hwb HB0.out) _
          have rm6 := rm.later b6
          have p6' : (w5.setCell ⟨g, k * 8 + 4, none⟩ (.slice A5 1 c5)).cell? ⟨g, k * 8 + 6, none⟩ = some (.slice M 1 cm) := (cO _ _ _ _ (by intro e; injection e; omega)).trans p6
          have g6'' : (w5.setCell ⟨g, k * 8 + 4, none⟩ (.slice A5 1 c5)).frozen? ⟨g, k * 8 + 6, none⟩ = false := by rw [World.frozen?_setCell]; exact g6'
          have hg5 : g < (w5.setCell ⟨g, k * 8 + 4, none⟩ (.slice A5 1 c5)).heap.size := by rw [World.size_setCell]; omega
          have hz5 : w.heap.size ≤ (w5.setCell ⟨g, k * 8 + 4, none⟩ (.slice A5 1 c5)).heap.size := by rw [World.size_setCell]; omega
          have hzb5 : wb.heap.size ≤ (w5.setCell ⟨g, k * 8 + 4, none⟩ (.slice A5 1 c5)).heap.size := by rw [World.size_setCell]; omega
          clear q4 q6 g4 g6 ra rm o5 p6 g6' b5 bS5 b0 b1 b2 b3 f0 f1 f2 f3
          obtain ⟨b0, b1, b2, b3, f0, f1, f2, f3⟩ := hBx7.out.below bS6 (by omega)
          go_wp2_with fail
          generalize w5.setCell ⟨g, k * 8 + 4, none⟩ (.slice A5 1 c5) = w6 at *
          go_at_call 155
          refine (wclone1 rm6).mono ?_
          rintro e w7 ⟨A7, c7, rfl, o7, hb_w7⟩
          have hs7 := hb_w7.size
          have p7 : w7.cell? ⟨g, k * 8 + 6, none⟩ = some (.slice M 1 cm) := (hb_w7.cell (p := ⟨g, k * 8 + 6, none⟩) hg5).trans p6'
          have g7 : w7.frozen? ⟨g, k * 8 + 6, none⟩ = false := ((bcell hb_w7).2 _ _ hg5).trans g6''
          have bS7 : Below wb.heap.size wS w7 := bS6.trans (hb_w7.mono hzb5)
          have ro7 := ((owns_laterN ro5 hb_w7).stored (k * 8 + 6) (.slice A7 1 c7)).1
          have hset : ((flat8 vs).set (k * 8 + 4) (.slice A5 1 c5)).set (k * 8 + 6) (.slice A7 1 c7) = flat8 (vs.set k ⟨d, A5, c5, A7, c7⟩) := by
            have e1 := flat8_set vs k 4 ⟨d, A5, c5, M, cm⟩ (.slice A5 1 c5) hkl (by omega) (by rw [HV.out]; simp [cells8, HXA.out])
            have e2 := flat8_set (vs.set k ⟨d, A5, c5, M, cm⟩) k 6 ⟨d, A5, c5, A7, c7⟩ (.slice A7 1 c7) (by rw [List.length_set]; exact hkl) (by omega) (by rw [List.getElem_set_self]; simp [cells8, HXM.out])
            rw [e1, e2, List.set_set]
          rw [hset] at ro7
          have HNX : Hid (CopK (w7.setCell ⟨g, k * 8 + 6, none⟩ (.slice A7 1 c7)) wb.heap.size g n cs1 vs0 (vs.set k ⟨d, A5, c5, A7, c7⟩) (k + 1)) := Lib.hid (CopK.next HK.out.len HK.out.same HK.out.rest hlt ⟨d, A5, c5, A7, c7⟩ (by rw [HV.out]) ro7
            (fun j hj hjk => ⟨((wo5 j hj hjk).1.later hb_w7).far (.inl (Nat.lt_succ_self g)) _, ((wo5 j hj hjk).2.later hb_w7).far (.inl (Nat.lt_succ_self g)) _⟩)
            (by show Own _ _ A5 d.aw; rw [HXA.out]; exact (o5'.later hb_w7).far (.inl (Nat.lt_succ_self g)) _) (by show Own _ _ A7 d.mw; rw [HXM.out]; exact (o7.own.mono (by omega)).far (.inl (Nat.lt_succ_self g)) _))
          have bS8 : Below wb.heap.size wS (w7.setCell ⟨g, k * 8 + 6, none⟩ (.slice A7 1 c7)) := bS7.setCell (p := ⟨g, k * 8 + 6, none⟩) HB0.out _
          clear wo5 o5' ro5 ro7 hset o7 b6 bS7 bS6 HK p6' g6'' b0 b1 b2 b3 f0 f1 f2 f3
          go_wp2
          go_roundw
          case rel => exact ⟨k + 1, by go_num, by omega, _, HNX.out, by rw [World.size_setCell]; omega, bS8⟩
          case measure => simp [intOf]; omega
        · obtain rfl : k = n := by omega
          have HE := Lib.hid (hK.end_ HB0.out (fun v hv => HW.out v hv))
          have HS := Lib.hid hK.same
          have HLn := Lib.hid hK.len
          clear hK
          have hR8 := hR7.out.below hbS (by omega)
          have oA7 := oA6.belowC HA4.out hbS
          have oU7 := oU6.belowC HU4.out hbS
          obtain ⟨r0, r1, r2, r3, t0, t1, t2, t3⟩ := id hR8
          go_wp2
          have hF := (((hR8.set0 (.slice A1 h.ws.length c1)).set1 (.int .i64 h.n)).set2 (.slice U1 h.us.length cu1)).set3 (.slice (some ⟨g, 0, none⟩) k cs1)
          refine bodyPost_ret (res_hpc rfl rfl hF) rfl ?_
          refine ⟨⟨A1, c1, U1, cu1, some ⟨g, 0, none⟩, cs1⟩, by rw [HN.out], ?_, ?_⟩
          · have hO : OwnsH wr (w.heap.size + 1 + 1) ⟨A1, c1, U1, cu1, some ⟨g, 0, none⟩, cs1⟩ h := ⟨oA7, oU7, vs, by rw [HS.out]; exact HVS.out, by rw [HN.out]; exact HE.out.mono (by omega)⟩
            exact (((((hO.far (p := ⟨w.heap.size + 1, 0, none⟩) (Nat.lt_succ_self _) _).far (p := ⟨w.heap.size + 1, 1, none⟩) (Nat.lt_succ_self _) _).far (p := ⟨w.heap.size + 1, 2, none⟩) (Nat.lt_succ_self _) _).far (p := ⟨w.heap.size + 1, 3, none⟩) (Nat.lt_succ_self _) _)).mono (by omega)
          · iterate 4 (refine Below.setCell ?_ (by show _ ≤ w.heap.size + 1; omega) _)
            exact hbw
section
variable {w : World} {b : Nat} {v0 v1 v2 v3 v4 v5 v6 v7 : Value}
theorem res_sw1 {fn : Func} {p : Tmp} (h : fn.results = #[.cell p 184]) {tmps : Array Value} (hp : tmps.getD p undef = .pointer (some ⟨b, 0, none⟩)) (c : E8 w b v0 v1 v2 v3 v4 v5 v6 v7) : (results fn tmps).run Tryz.prog w = .ok (.agg #[v0, v1, v2, v3, v4, v5, v6, v7]) w := by
  obtain ⟨h0, h1, h2, h3, h4, h5, h6, h7, _⟩ := c
  have hp2 : tmps[p]?.getD undef = .pointer (some ⟨b, 0, none⟩) := by rw [← hp]; simp
  simp only [results, h]
  simp [go_sem, Result.andThen, h0, h1, h2, h3, h4, h5, h6, h7, asAddr, hp2]
theorem res_sw2 {fn : Func} {p u : Tmp} (h : fn.results = #[.cell p 184, .tmp u]) {tmps : Array Value} (hp : tmps.getD p undef = .pointer (some ⟨b, 0, none⟩)) (c : E8 w b v0 v1 v2 v3 v4 v5 v6 v7) : (results fn tmps).run Tryz.prog w = .ok (.tuple #[.agg #[v0, v1, v2, v3, v4, v5, v6, v7], tmps.getD u undef]) w := by
  obtain ⟨h0, h1, h2, h3, h4, h5, h6, h7, _⟩ := c
  have hp2 : tmps[p]?.getD undef = .pointer (some ⟨b, 0, none⟩) := by rw [← hp]; simp
  simp only [results, h]
  simp [go_sem, Result.andThen, h0, h1, h2, h3, h4, h5, h6, h7, asAddr, hp2]
theorem res_ss2 {fn : Func} {p u : Tmp} (h : fn.results = #[.cell p 64, .tmp u]) {tmps : Array Value} (hp : tmps.getD p undef = .pointer (some ⟨b, 0, none⟩)) (c : E8 w b v0 v1 v2 v3 v4 v5 v6 v7) : (results fn tmps).run Tryz.prog w = .ok (.tuple #[.agg #[v0, v1, v2, v3, v4, v5, v6, v7], tmps.getD u undef]) w := by
  obtain ⟨h0, h1, h2, h3, h4, h5, h6, h7, _⟩ := c
  have hp2 : tmps[p]?.getD undef = .pointer (some ⟨b, 0, none⟩) := by rw [← hp]; simp
  simp only [results, h]
  simp [go_sem, Result.andThen, h0, h1, h2, h3, h4, h5, h6, h7, asAddr, hp2]
theorem res_ss3 {fn : Func} {p u x : Tmp} (h : fn.results = #[.cell p 64, .tmp u, .tmp x]) {tmps : Array Value} (hp : tmps.getD p undef = .pointer (some ⟨b, 0, none⟩)) (c : E8 w b v0 v1 v2 v3 v4 v5 v6 v7) : (results fn tmps).run Tryz.prog w = .ok (.tuple #[.agg #[v0, v1, v2, v3, v4, v5, v6, v7], tmps.getD u undef, tmps.getD x undef]) w := by
  obtain ⟨h0, h1, h2, h3, h4, h5, h6, h7, _⟩ := c
  have hp2 : tmps[p]?.getD undef = .pointer (some ⟨b, 0, none⟩) := by rw [← hp]; simp
  simp only [results, h]
  simp [go_sem, Result.andThen, h0, h1, h2, h3, h4, h5, h6, h7, asAddr, hp2]
end
section
variable {w : World} {n m : Int} {A C : Option Addr} {ws us : List Nat} (cap cap' : Nat)
theorem both_ok2 (e : n = m) (hr : Row w w.heap.size A ws) (hs : Row w w.heap.size C us) (h : Right n ws) (h' : Right n us) :
    Calls Tryz.prog 195 #[.agg #[.int .i64 n, .slice A ws.length cap], .agg #[.int .i64 m, .slice C us.length cap']] w fun e w' => Fresh w n (bothTo ws us us.length) 0 e w' := by
  subst e
  exact both_ok cap cap' hr hs h h'
theorem both_bad (hr : Row w w.heap.size A ws) (hs : Row w w.heap.size C us) (h' : Right m us) (hb : ¬ (Right n ws ∧ n = m)) :
    Calls Tryz.prog 195 #[.agg #[.int .i64 n, .slice A ws.length cap], .agg #[.int .i64 m, .slice C us.length cap']] w fun e w' => Fresh w 0 [] 2 e w' := by
  by_cases h : Right n ws
  · exact both_len cap cap' hr hs h h' fun e => hb ⟨h, e⟩
  · exact both_bad1 cap cap' hr h
theorem fcount_any (hr : Row w w.heap.size A ws) (h : Right n ws) : Calls Tryz.prog 199 #[.agg #[.int .i64 n, .slice A ws.length cap]] w fun e w' => e = .returned (.int .i64 (countTo ws n.toNat : Nat)) ∧ Below w.heap.size w w' := by
  have hR := Lib.hid h
  clear h
  go_enter Tryz.func199, Tryz.ntmps199
  go_wp2_with fail
  go_at_call 61
  refine (count_ok cap (hr.later bX) hR.out).mono ?_
  rintro e w1 ⟨rfl, hb_w1⟩
  obtain ⟨hc_w1, hf_w1⟩ := bcell hb_w1; have hz_w1_w_0 : w.heap.size < w1.heap.size := lY hb_w1.size; have hs_w1 := hb_w1.size; (try simp only [zZ] at hs_w1)
  go_wp2
  go_ret
  exact ⟨rfl, bX⟩
end
section
variable {w : World} {v : Hv} {O : Option Addr} {s : Sc} (co : Nat)
set_option maxHeartbeats 1000000 in
theorem fmissing_ok (m : SM w v O s) (hk : OkS s) :
    Calls Tryz.prog 198 #[scV v O co s] w fun e w' => Fresh w s.n (misW s) 0 e w' := by
  have HB := Lib.hid fun (w : World) hr hs => both_ok2 (n := s.n) (m := s.h.n) (A := O) (ws := s.os) (C := v.U) (us := s.h.us) (w := w) co v.cu hk.n hr hs hk.o hk.us
  clear hk
  unfold misW
  unfold Fresh at HB ⊢
  unfold scV
  go_enter Tryz.func198, Tryz.ntmps198
  go_wp2_with fail
  go_at_call 195
  refine (HB.out _ (m.o.later bX) (m.h.u.later bX)).mono ?_
  rintro e w1 ⟨A1, c1, rfl, o1, hb_w1⟩
  obtain ⟨hc_w1, hf_w1⟩ := bcell hb_w1; have hz_w1_w_0 : w.heap.size < w1.heap.size := lY hb_w1.size; have hz_w1_w_1 : w.heap.size + 1 < w1.heap.size := lY hb_w1.size; have hs_w1 := hb_w1.size; (try simp only [zZ] at hs_w1)
  have t2 : Two w1 (w.heap.size + 1) _ _ := (Two.new1 w _ _ _ _).below hb_w1 lX
  obtain ⟨y0, y1, yf⟩ := id t2
  go_wp2
  exact bodyPost_ret (res_bits rfl rfl (t2.set_ _ _).c0 (t2.set_ _ _).c1) rfl ⟨A1, c1, rfl, (o1.two (g := w.heap.size + 1) lX).mono lX, bX⟩
set_option maxHeartbeats 1000000 in
theorem fmissing_bad (m : SM w v O s) (hk : OkH s.h) (hb : ¬ (Right s.n s.os ∧ s.n = s.h.n)) :
    Calls Tryz.prog 198 #[scV v O co s] w fun e w' => Fresh w 0 [] 2 e w' := by
  have HB := Lib.hid fun (w : World) hr hs => both_bad (n := s.n) (m := s.h.n) (A := O) (ws := s.os) (C := v.U) (us := s.h.us) (w := w) co v.cu hr hs hk.framed.pages hb
  clear hk hb
  skip
  unfold Fresh at HB ⊢
  unfold scV
  go_enter Tryz.func198, Tryz.ntmps198
  go_wp2_with fail
  go_at_call 195
  refine (HB.out _ (m.o.later bX) (m.h.u.later bX)).mono ?_
  rintro e w1 ⟨A1, c1, rfl, o1, hb_w1⟩
  obtain ⟨hc_w1, hf_w1⟩ := bcell hb_w1; have hz_w1_w_0 : w.heap.size < w1.heap.size := lY hb_w1.size; have hz_w1_w_1 : w.heap.size + 1 < w1.heap.size := lY hb_w1.size; have hs_w1 := hb_w1.size; (try simp only [zZ] at hs_w1)
  have t2 : Two w1 (w.heap.size + 1) _ _ := (Two.new1 w _ _ _ _).below hb_w1 lX
  obtain ⟨y0, y1, yf⟩ := id t2
  go_wp2
  exact bodyPost_ret (res_bits rfl rfl (t2.set_ _ _).c0 (t2.set_ _ _).c1) rfl ⟨A1, c1, rfl, (o1.two (g := w.heap.size + 1) lX).mono lX, bX⟩
set_option maxHeartbeats 1000000 in
theorem fmissing_in (m : SM w v O s) (ho : Right s.n s.os) (hu : Right s.n s.h.us) (hn : s.n = s.h.n) :
    Calls Tryz.prog 198 #[scV v O co s] w fun e w' => Fresh w s.n (misW s) 0 e w' := by
  have HB := Lib.hid fun (w : World) hr hs => both_ok2 (n := s.n) (m := s.h.n) (A := O) (ws := s.os) (C := v.U) (us := s.h.us) (w := w) co v.cu hn hr hs ho hu
  clear ho hu hn
  unfold misW
  unfold Fresh at HB ⊢
  unfold scV
  go_enter Tryz.func198, Tryz.ntmps198
  go_wp2_with fail
  go_at_call 195
  refine (HB.out _ (m.o.later bX) (m.h.u.later bX)).mono ?_
  rintro e w1 ⟨A1, c1, rfl, o1, hb_w1⟩
  obtain ⟨hc_w1, hf_w1⟩ := bcell hb_w1; have hz_w1_w_0 : w.heap.size < w1.heap.size := lY hb_w1.size; have hz_w1_w_1 : w.heap.size + 1 < w1.heap.size := lY hb_w1.size; have hs_w1 := hb_w1.size; (try simp only [zZ] at hs_w1)
  have t2 : Two w1 (w.heap.size + 1) _ _ := (Two.new1 w _ _ _ _).below hb_w1 lX
  obtain ⟨y0, y1, yf⟩ := id t2
  go_wp2
  exact bodyPost_ret (res_bits rfl rfl (t2.set_ _ _).c0 (t2.set_ _ _).c1) rfl ⟨A1, c1, rfl, (o1.two (g := w.heap.size + 1) lX).mono lX, bX⟩
set_option maxHeartbeats 1000000 in
theorem fused_any (m : SM w v O s) (hk : OkS s) :
    Calls Tryz.prog 131 #[scV v O co s] w fun e w' => e = .returned (.int .i64 (countTo s.h.us s.n.toNat : Nat)) ∧ Below w.heap.size w w' := by
  have HC := Lib.hid fun (w : World) hr => fcount_any (w := w) (n := s.h.n) (A := v.U) (ws := s.h.us) v.cu hr hk.h.framed.pages
  rw [hk.n]
  clear hk
  unfold scV
  go_enter Tryz.func131, Tryz.ntmps131
  go_wp2_with fail
  go_at_call 199
  refine (HC.out _ (m.h.u.later bX)).mono ?_
  rintro e w1 ⟨rfl, hb_w1⟩
  obtain ⟨hc_w1, hf_w1⟩ := bcell hb_w1; have hz_w1_w_0 : w.heap.size < w1.heap.size := lY hb_w1.size; have hs_w1 := hb_w1.size; (try simp only [zZ] at hs_w1)
  go_wp2
  go_ret
  exact ⟨rfl, bX⟩
set_option maxHeartbeats 1000000 in
theorem fpresent_any (m : SM w v O s) (hk : OkS s) :
    Calls Tryz.prog 129 #[scV v O co s] w fun e w' => e = .returned (.int .i64 (s.n - (countTo s.os s.n.toNat : Nat))) ∧ Below w.heap.size w w' := by
  have HC := Lib.hid fun (w : World) hr => fcount_any (w := w) (n := s.n) (A := O) (ws := s.os) co hr hk.o
  obtain ⟨n0, n1, n2⟩ := hk.nn
  have hcl := countTo_le s.os s.n.toNat
  clear hk
  generalize countTo s.os s.n.toNat = q at *
  have hwr : IntKind.i64.wrap (s.n - (q : Int)) = s.n - (q : Int) := IntWalk.i64_in _ (by omega)
  unfold scV
  go_enter Tryz.func129, Tryz.ntmps129
  go_wp2_with fail
  go_region_with (go_at_call 199; refine (HC.out _ (m.o.later bX)).mono ?_; rintro e w1 ⟨rfl, hb_w1⟩; obtain ⟨hc_w1, hf_w1⟩ := bcell hb_w1; have hz_w1_w_0 : w.heap.size < w1.heap.size := lY hb_w1.size; have hs_w1 := hb_w1.size; (try simp only [zZ] at hs_w1))
  all_goals (try go_wp2)
  all_goals (try go_ret)
  all_goals (refine ⟨?_, bX⟩)
  all_goals (first | rfl | (simp only [Act.put, List.getElem_toArray, List.getElem_cons_zero, List.getElem_cons_succ, List.setIfInBounds_toArray, List.set_cons_zero, List.set_cons_succ, hwr]; rfl))
set_option maxHeartbeats 1000000 in
theorem fspare_any (m : SM w v O s) (hk : OkS s) (i : Nat) (hi : (i : Int) < s.n) :
    Calls Tryz.prog 201 #[scV v O co s, .int .i64 (i : Nat)] w fun e w' => e = .returned (.bool (!tb s.h.us i && !tb s.os i)) ∧ Below w.heap.size w w' := by
  have HU := Lib.hid fun (w : World) hr => get_in (w := w) (n := s.h.n) (A := v.U) (ws := s.h.us) (i := (i : Int)) (cap := v.cu) hr hk.h.framed.pages (by omega) (by rw [← hk.n]; exact hi)
  have HO := Lib.hid fun (w : World) hr => get_in (w := w) (n := s.n) (A := O) (ws := s.os) (i := (i : Int)) (cap := co) hr hk.o (by omega) hi
  simp only [Int.toNat_natCast] at HU HO
  clear hk
  unfold scV
  generalize tb s.h.us i = bu at *
  generalize tb s.os i = bo at *
  go_enter Tryz.func201, Tryz.ntmps201
  go_wp2_with fail
  go_at_call 241
  refine (HU.out _ (m.h.u.later bX)).mono ?_
  rintro e w1 ⟨rfl, hb_w1⟩
  obtain ⟨hc_w1, hf_w1⟩ := bcell hb_w1; have hz_w1_w_0 : w.heap.size < w1.heap.size := lY hb_w1.size; have hs_w1 := hb_w1.size; (try simp only [zZ] at hs_w1)
  go_wp2_with fail
  go_at_call 241
  refine (HO.out _ (m.o.later bX)).mono ?_
  rintro e w2 ⟨rfl, hb_w2⟩
  obtain ⟨hc_w2, hf_w2⟩ := bcell hb_w2; have hz_w2_w_0 : w.heap.size < w2.heap.size := lY hb_w2.size; have hs_w2 := hb_w2.size; (try simp only [zZ] at hs_w2)
  cases bu <;> cases bo
  all_goals go_wp2
  all_goals go_ret
  all_goals exact ⟨rfl, bX⟩
set_option maxHeartbeats 2000000 in
theorem fview_ok (hz : Sizes w) (m : SM w v O s) (hk : OkS s) :
    Calls Tryz.prog 123 #[scV v O co s] w fun e w' => e = .returned (.tuple #[scV v O co s, .int .i64 0]) ∧ Below w.heap.size w w' := by
  have HC := Lib.hid fun (w : World) z m => zcheck_any (w := w) (v := v) (h := s.h) z m hk.h.lens.1 hk.h.lens.2 0 (.inl ⟨hk.h, rfl⟩)
  have HMI := Lib.hid fun (w : World) m => fmissing_ok (w := w) (v := v) (O := O) (s := s) co m hk
  have hms : Right s.n (misW s) := right_both hk.o hk.len
  have HCO := Lib.hid fun (w : World) (A : Option Addr) (c : Nat) hr => fcount_any (w := w) (n := s.n) (A := A) (ws := misW s) c hr hms
  rw [hk.m] at HCO
  clear hk hms
  unfold Fresh at HMI
  unfold scV at HMI ⊢
  unfold hpV hpv at HC
  generalize misW s = ms at *
  go_enter Tryz.func123, Tryz.ntmps123
  go_wp2_with fail
  go_at_call 21
  refine (HC.out _ (hz.later bX) (m.h.later bX)).mono ?_
  rintro e w1 ⟨rfl, hb_w1⟩
  obtain ⟨hc_w1, hf_w1⟩ := bcell hb_w1; have hz_w1_w_0 : w.heap.size < w1.heap.size := lY hb_w1.size; have hz_w1_w_1 : w.heap.size + 1 < w1.heap.size := lY hb_w1.size; have hz_w1_w_2 : w.heap.size + 2 < w1.heap.size := lY hb_w1.size; have hs_w1 := hb_w1.size; (try simp only [zZ] at hs_w1)
  have b1 : Below w.heap.size w w1 := bX
  have t0 := ((E8.new (w.alloc (.cells #[.slice v.A s.h.ws.length v.ca, .int .i64 s.h.n, .slice v.U s.h.us.length v.cu, .slice v.V s.h.l.length v.cv, .int .i64 s.n, .slice O s.os.length co, .int .u64 (s.fa : Nat), .int .u64 (s.go : Nat)] 64)) (.slice none 0 0) (.int .i64 0) (.slice none 0 0) (.slice none 0 0) (.int .i64 0) (.slice none 0 0) (.int .u64 0) (.int .u64 0) 184).later ((Below.refl _ _).alloc (Nat.le_refl _) (.cells #[.slice v.A s.h.ws.length v.ca, .int .i64 s.h.n, .slice v.U s.h.us.length v.cu, .slice v.V s.h.l.length v.cv, .int .i64 s.n, .slice O s.os.length co, .int .u64 (s.fa : Nat), .int .u64 (s.go : Nat)] 184))).later hb_w1
  have t1 := (E8.new (w.alloc (.cells #[.slice v.A s.h.ws.length v.ca, .int .i64 s.h.n, .slice v.U s.h.us.length v.cu, .slice v.V s.h.l.length v.cv, .int .i64 s.n, .slice O s.os.length co, .int .u64 (s.fa : Nat), .int .u64 (s.go : Nat)] 64) |>.alloc (.cells #[.slice none 0 0, .int .i64 0, .slice none 0 0, .slice none 0 0, .int .i64 0, .slice none 0 0, .int .u64 0, .int .u64 0] 184)) (.slice v.A s.h.ws.length v.ca) (.int .i64 s.h.n) (.slice v.U s.h.us.length v.cu) (.slice v.V s.h.l.length v.cv) (.int .i64 s.n) (.slice O s.os.length co) (.int .u64 (s.fa : Nat)) (.int .u64 (s.go : Nat)) 184).later hb_w1
  simp only [zA] at t0 t1
  clear hc_w1 hf_w1
  obtain ⟨x0, x1, x2, x3, x4, x5, x6, x7, xf⟩ := id t1
  go_wp2_with fail
  go_at_call 198
  refine (HMI.out _ (m.later b1)).mono ?_
  rintro e w2 ⟨A2, c2, rfl, o2, hb_w2⟩
  obtain ⟨hc_w2, hf_w2⟩ := bcell hb_w2; have hz_w2_w_0 : w.heap.size < w2.heap.size := lY hb_w2.size; have hz_w2_w_1 : w.heap.size + 1 < w2.heap.size := lY hb_w2.size; have hz_w2_w_2 : w.heap.size + 2 < w2.heap.size := lY hb_w2.size; have hs_w2 := hb_w2.size; (try simp only [zZ] at hs_w2)
  have b2 : Below w.heap.size w w2 := bX
  have t0 := t0.later hb_w2
  have t1 := t1.later hb_w2
  clear hc_w2 hf_w2 x0 x1 x2 x3 x4 x5 x6 x7 xf
  have r2 := o2.row
  have s2 := hb_w2.size
  clear o2 hb_w2
  have d2 := Two.new w2 (.int .i64 s.n) (.slice A2 ms.length c2) 26
  have t0 := t0.later ((Below.refl _ _).alloc (Nat.le_refl _) (.cells #[.int .i64 s.n, .slice A2 ms.length c2] 26))
  have t1 := t1.later ((Below.refl _ _).alloc (Nat.le_refl _) (.cells #[.int .i64 s.n, .slice A2 ms.length c2] 26))
  have b3 : Below w.heap.size w (w2.alloc (.cells #[.int .i64 s.n, .slice A2 ms.length c2] 26)) := bX
  go_wp2_with fail
  go_at_call 199
  refine (HCO.out _ _ _ (r2.later bX)).mono ?_
  rintro e w3 ⟨rfl, hb_w3⟩
  obtain ⟨hc_w3, hf_w3⟩ := bcell hb_w3; have hz_w3_w2_0 : w2.heap.size < w3.heap.size := lY hb_w3.size; have hs_w3 := hb_w3.size; (try simp only [zZ] at hs_w3)
  have b4 : Below w.heap.size w w3 := b3.trans (hb_w3.mono b3.size)
  have t0 := t0.later hb_w3
  have t1 := t1.later hb_w3
  clear hc_w3 hf_w3
  obtain ⟨x0, x1, x2, x3, x4, x5, x6, x7, xf⟩ := id t1
  obtain ⟨y0, y1, y2, y3, y4, y5, y6, y7, yf⟩ := id t0
  go_wp2
  exact bodyPost_ret (res_sw2 rfl rfl (t0.all _ _ _ _ _ _ _ _)) rfl ⟨rfl, below8 b4 lX _ _ _ _ _ _ _ _⟩
end
section
variable {w : World} {v : Hv} {O : Option Addr} {s : Sc} (co : Nat)
set_option maxHeartbeats 2000000 in
theorem fview_bad1 (hz : Sizes w) (m : SM w v O s) (hs : Short s.h) (hk : ¬ OkH s.h) :
    Calls Tryz.prog 123 #[scV v O co s] w fun e w' => e = .returned (.tuple #[scV hv0 none 0 sc0, .int .i64 2]) ∧ Below w.heap.size w w' := by
  have HC := Lib.hid fun (w : World) z m => zcheck_any (w := w) (v := v) (h := s.h) z m (by have := hs.l; omega) hs.ws 2 (.inr ⟨hk, rfl⟩)
  clear hk hs
  unfold scV
  unfold hpV hpv at HC
  go_enter Tryz.func123, Tryz.ntmps123
  go_wp2_with fail
  go_at_call 21
  refine (HC.out _ (hz.later bX) (m.h.later bX)).mono ?_
  rintro e w1 ⟨rfl, hb_w1⟩
  obtain ⟨hc_w1, hf_w1⟩ := bcell hb_w1; have hz_w1_w_0 : w.heap.size < w1.heap.size := lY hb_w1.size; have hz_w1_w_1 : w.heap.size + 1 < w1.heap.size := lY hb_w1.size; have hz_w1_w_2 : w.heap.size + 2 < w1.heap.size := lY hb_w1.size; have hs_w1 := hb_w1.size; (try simp only [zZ] at hs_w1)
  have b1 : Below w.heap.size w w1 := bX
  have t0 := ((E8.new (w.alloc (.cells #[.slice v.A s.h.ws.length v.ca, .int .i64 s.h.n, .slice v.U s.h.us.length v.cu, .slice v.V s.h.l.length v.cv, .int .i64 s.n, .slice O s.os.length co, .int .u64 (s.fa : Nat), .int .u64 (s.go : Nat)] 64)) (.slice none 0 0) (.int .i64 0) (.slice none 0 0) (.slice none 0 0) (.int .i64 0) (.slice none 0 0) (.int .u64 0) (.int .u64 0) 184).later ((Below.refl _ _).alloc (Nat.le_refl _) (.cells #[.slice v.A s.h.ws.length v.ca, .int .i64 s.h.n, .slice v.U s.h.us.length v.cu, .slice v.V s.h.l.length v.cv, .int .i64 s.n, .slice O s.os.length co, .int .u64 (s.fa : Nat), .int .u64 (s.go : Nat)] 184))).later hb_w1
  have t1 := (E8.new (w.alloc (.cells #[.slice v.A s.h.ws.length v.ca, .int .i64 s.h.n, .slice v.U s.h.us.length v.cu, .slice v.V s.h.l.length v.cv, .int .i64 s.n, .slice O s.os.length co, .int .u64 (s.fa : Nat), .int .u64 (s.go : Nat)] 64) |>.alloc (.cells #[.slice none 0 0, .int .i64 0, .slice none 0 0, .slice none 0 0, .int .i64 0, .slice none 0 0, .int .u64 0, .int .u64 0] 184)) (.slice v.A s.h.ws.length v.ca) (.int .i64 s.h.n) (.slice v.U s.h.us.length v.cu) (.slice v.V s.h.l.length v.cv) (.int .i64 s.n) (.slice O s.os.length co) (.int .u64 (s.fa : Nat)) (.int .u64 (s.go : Nat)) 184).later hb_w1
  simp only [zA] at t0 t1
  clear hc_w1 hf_w1
  obtain ⟨y0, y1, y2, y3, y4, y5, y6, y7, yf⟩ := id t0
  go_wp2
  exact bodyPost_ret (res_sw2 rfl rfl (t0.all _ _ _ _ _ _ _ _)) rfl ⟨rfl, below8 b1 lX _ _ _ _ _ _ _ _⟩
set_option maxHeartbeats 2000000 in
theorem fview_bad2 (hz : Sizes w) (m : SM w v O s) (hk : OkH s.h) (hb : ¬ (Right s.n s.os ∧ s.n = s.h.n)) :
    Calls Tryz.prog 123 #[scV v O co s] w fun e w' => e = .returned (.tuple #[scV hv0 none 0 sc0, .int .i64 2]) ∧ Below w.heap.size w w' := by
  have HC := Lib.hid fun (w : World) z m => zcheck_any (w := w) (v := v) (h := s.h) z m hk.lens.1 hk.lens.2 0 (.inl ⟨hk, rfl⟩)
  have HMI := Lib.hid fun (w : World) m => fmissing_bad (w := w) (v := v) (O := O) (s := s) co m hk hb
  clear hk hb
  unfold Fresh at HMI
  unfold scV at HMI ⊢
  unfold hpV hpv at HC
  go_enter Tryz.func123, Tryz.ntmps123
  go_wp2_with fail
  go_at_call 21
  refine (HC.out _ (hz.later bX) (m.h.later bX)).mono ?_
  rintro e w1 ⟨rfl, hb_w1⟩
  obtain ⟨hc_w1, hf_w1⟩ := bcell hb_w1; have hz_w1_w_0 : w.heap.size < w1.heap.size := lY hb_w1.size; have hz_w1_w_1 : w.heap.size + 1 < w1.heap.size := lY hb_w1.size; have hz_w1_w_2 : w.heap.size + 2 < w1.heap.size := lY hb_w1.size; have hs_w1 := hb_w1.size; (try simp only [zZ] at hs_w1)
  have b1 : Below w.heap.size w w1 := bX
  have t0 := ((E8.new (w.alloc (.cells #[.slice v.A s.h.ws.length v.ca, .int .i64 s.h.n, .slice v.U s.h.us.length v.cu, .slice v.V s.h.l.length v.cv, .int .i64 s.n, .slice O s.os.length co, .int .u64 (s.fa : Nat), .int .u64 (s.go : Nat)] 64)) (.slice none 0 0) (.int .i64 0) (.slice none 0 0) (.slice none 0 0) (.int .i64 0) (.slice none 0 0) (.int .u64 0) (.int .u64 0) 184).later ((Below.refl _ _).alloc (Nat.le_refl _) (.cells #[.slice v.A s.h.ws.length v.ca, .int .i64 s.h.n, .slice v.U s.h.us.length v.cu, .slice v.V s.h.l.length v.cv, .int .i64 s.n, .slice O s.os.length co, .int .u64 (s.fa : Nat), .int .u64 (s.go : Nat)] 184))).later hb_w1
  have t1 := (E8.new (w.alloc (.cells #[.slice v.A s.h.ws.length v.ca, .int .i64 s.h.n, .slice v.U s.h.us.length v.cu, .slice v.V s.h.l.length v.cv, .int .i64 s.n, .slice O s.os.length co, .int .u64 (s.fa : Nat), .int .u64 (s.go : Nat)] 64) |>.alloc (.cells #[.slice none 0 0, .int .i64 0, .slice none 0 0, .slice none 0 0, .int .i64 0, .slice none 0 0, .int .u64 0, .int .u64 0] 184)) (.slice v.A s.h.ws.length v.ca) (.int .i64 s.h.n) (.slice v.U s.h.us.length v.cu) (.slice v.V s.h.l.length v.cv) (.int .i64 s.n) (.slice O s.os.length co) (.int .u64 (s.fa : Nat)) (.int .u64 (s.go : Nat)) 184).later hb_w1
  simp only [zA] at t0 t1
  clear hc_w1 hf_w1
  obtain ⟨x0, x1, x2, x3, x4, x5, x6, x7, xf⟩ := id t1
  go_wp2_with fail
  go_at_call 198
  refine (HMI.out _ (m.later b1)).mono ?_
  rintro e w2 ⟨A2, c2, rfl, o2, hb_w2⟩
  obtain ⟨hc_w2, hf_w2⟩ := bcell hb_w2; have hz_w2_w_0 : w.heap.size < w2.heap.size := lY hb_w2.size; have hz_w2_w_1 : w.heap.size + 1 < w2.heap.size := lY hb_w2.size; have hz_w2_w_2 : w.heap.size + 2 < w2.heap.size := lY hb_w2.size; have hs_w2 := hb_w2.size; (try simp only [zZ] at hs_w2)
  have b2 : Below w.heap.size w w2 := bX
  have t0 := t0.later hb_w2
  have t1 := t1.later hb_w2
  clear hc_w2 hf_w2 x0 x1 x2 x3 x4 x5 x6 x7 xf
  have s2 := hb_w2.size
  clear o2 hb_w2
  have zt := t0.lt
  obtain ⟨y0, y1, y2, y3, y4, y5, y6, y7, yf⟩ := id t0
  go_wp2
  exact bodyPost_ret (res_sw2 rfl rfl ((t0.all (.slice none 0 0) (.int .i64 0) (.slice none 0 0) (.slice none 0 0) (.int .i64 0) (.slice none 0 0) (.int .u64 0) (.int .u64 0)).later ((Below.refl _ _).alloc (Nat.le_refl _) (.cells #[.int .i64 0, .slice A2 0 c2] 26)))) rfl ⟨rfl, (below8 b2 (by omega) (.slice none 0 0) (.int .i64 0) (.slice none 0 0) (.slice none 0 0) (.int .i64 0) (.slice none 0 0) (.int .u64 0) (.int .u64 0)).alloc (by rw [size8]; omega) _⟩
set_option maxHeartbeats 2000000 in
theorem fview_bad3 (hz : Sizes w) (m : SM w v O s) (hk : OkH s.h) (ho : Right s.n s.os) (hn : s.n = s.h.n) (hc : countTo (misW s) s.n.toNat ≠ 0) :
    Calls Tryz.prog 123 #[scV v O co s] w fun e w' => e = .returned (.tuple #[scV hv0 none 0 sc0, .int .i64 2]) ∧ Below w.heap.size w w' := by
  have HC := Lib.hid fun (w : World) z m => zcheck_any (w := w) (v := v) (h := s.h) z m hk.lens.1 hk.lens.2 0 (.inl ⟨hk, rfl⟩)
  have hu : Right s.n s.h.us := by rw [hn]; exact hk.framed.pages
  have HMI := Lib.hid fun (w : World) (m : SM w v O s) => fmissing_in (w := w) (v := v) (O := O) (s := s) co m ho hu hn
  have hms : Right s.n (misW s) := right_both ho (right_same ho hu)
  have HCO := Lib.hid fun (w : World) (A : Option Addr) (c : Nat) hr => fcount_any (w := w) (n := s.n) (A := A) (ws := misW s) c hr hms
  have hcl := countTo_le (misW s) s.n.toNat
  have h12 := ho.2.1
  clear hk hms hu ho hn
  unfold Fresh at HMI
  unfold scV at HMI ⊢
  unfold hpV hpv at HC
  generalize misW s = ms at *
  generalize countTo ms s.n.toNat = q at *
  have hq : decide ((q : Int) > 0) = true := decide_eq_true (by omega)
  have hq2 : decide ((0 : Int) < (q : Int)) = true := decide_eq_true (by omega)
  have hq3 : decide (0 < q) = true := decide_eq_true (by omega)
  go_enter Tryz.func123, Tryz.ntmps123
  go_wp2_with fail
  go_at_call 21
  refine (HC.out _ (hz.later bX) (m.h.later bX)).mono ?_
  rintro e w1 ⟨rfl, hb_w1⟩
  obtain ⟨hc_w1, hf_w1⟩ := bcell hb_w1; have hz_w1_w_0 : w.heap.size < w1.heap.size := lY hb_w1.size; have hz_w1_w_1 : w.heap.size + 1 < w1.heap.size := lY hb_w1.size; have hz_w1_w_2 : w.heap.size + 2 < w1.heap.size := lY hb_w1.size; have hs_w1 := hb_w1.size; (try simp only [zZ] at hs_w1)
  have b1 : Below w.heap.size w w1 := bX
  have t0 := ((E8.new (w.alloc (.cells #[.slice v.A s.h.ws.length v.ca, .int .i64 s.h.n, .slice v.U s.h.us.length v.cu, .slice v.V s.h.l.length v.cv, .int .i64 s.n, .slice O s.os.length co, .int .u64 (s.fa : Nat), .int .u64 (s.go : Nat)] 64)) (.slice none 0 0) (.int .i64 0) (.slice none 0 0) (.slice none 0 0) (.int .i64 0) (.slice none 0 0) (.int .u64 0) (.int .u64 0) 184).later ((Below.refl _ _).alloc (Nat.le_refl _) (.cells #[.slice v.A s.h.ws.length v.ca, .int .i64 s.h.n, .slice v.U s.h.us.length v.cu, .slice v.V s.h.l.length v.cv, .int .i64 s.n, .slice O s.os.length co, .int .u64 (s.fa : Nat), .int .u64 (s.go : Nat)] 184))).later hb_w1
  have t1 := (E8.new (w.alloc (.cells #[.slice v.A s.h.ws.length v.ca, .int .i64 s.h.n, .slice v.U s.h.us.length v.cu, .slice v.V s.h.l.length v.cv, .int .i64 s.n, .slice O s.os.length co, .int .u64 (s.fa : Nat), .int .u64 (s.go : Nat)] 64) |>.alloc (.cells #[.slice none 0 0, .int .i64 0, .slice none 0 0, .slice none 0 0, .int .i64 0, .slice none 0 0, .int .u64 0, .int .u64 0] 184)) (.slice v.A s.h.ws.length v.ca) (.int .i64 s.h.n) (.slice v.U s.h.us.length v.cu) (.slice v.V s.h.l.length v.cv) (.int .i64 s.n) (.slice O s.os.length co) (.int .u64 (s.fa : Nat)) (.int .u64 (s.go : Nat)) 184).later hb_w1
  simp only [zA] at t0 t1
  clear hc_w1 hf_w1
  obtain ⟨x0, x1, x2, x3, x4, x5, x6, x7, xf⟩ := id t1
  go_wp2_with fail
  go_at_call 198
  refine (HMI.out _ (m.later b1)).mono ?_
  rintro e w2 ⟨A2, c2, rfl, o2, hb_w2⟩
  obtain ⟨hc_w2, hf_w2⟩ := bcell hb_w2; have hz_w2_w_0 : w.heap.size < w2.heap.size := lY hb_w2.size; have hz_w2_w_1 : w.heap.size + 1 < w2.heap.size := lY hb_w2.size; have hz_w2_w_2 : w.heap.size + 2 < w2.heap.size := lY hb_w2.size; have hs_w2 := hb_w2.size; (try simp only [zZ] at hs_w2)
  have b2 : Below w.heap.size w w2 := bX
  have t0 := t0.later hb_w2
  have t1 := t1.later hb_w2
  clear hc_w2 hf_w2 x0 x1 x2 x3 x4 x5 x6 x7 xf
  have r2 := o2.row
  have s2 := hb_w2.size
  clear o2 hb_w2
  have d2 := Two.new w2 (.int .i64 s.n) (.slice A2 ms.length c2) 26
  have t0 := t0.later ((Below.refl _ _).alloc (Nat.le_refl _) (.cells #[.int .i64 s.n, .slice A2 ms.length c2] 26))
  have b3 : Below w.heap.size w (w2.alloc (.cells #[.int .i64 s.n, .slice A2 ms.length c2] 26)) := bX
  go_wp2_with fail
  go_at_call 199
  refine (HCO.out _ _ _ (r2.later bX)).mono ?_
  rintro e w3 ⟨rfl, hb_w3⟩
  obtain ⟨hc_w3, hf_w3⟩ := bcell hb_w3; have hz_w3_w2_0 : w2.heap.size < w3.heap.size := lY hb_w3.size; have hs_w3 := hb_w3.size; (try simp only [zZ] at hs_w3)
  have b4 : Below w.heap.size w w3 := b3.trans (hb_w3.mono b3.size)
  have t0 := t0.later hb_w3
  clear hc_w3 hf_w3
  obtain ⟨y0, y1, y2, y3, y4, y5, y6, y7, yf⟩ := id t0
  go_wp2
  exact bodyPost_ret (res_sw2 rfl rfl (t0.all _ _ _ _ _ _ _ _)) rfl ⟨rfl, below8 b4 lX _ _ _ _ _ _ _ _⟩
set_option maxHeartbeats 1000000 in
theorem fview_bad (hz : Sizes w) (m : SM w v O s) (hs : Short s.h) (hk : ¬ OkS s) :
    Calls Tryz.prog 123 #[scV v O co s] w fun e w' => e = .returned (.tuple #[scV hv0 none 0 sc0, .int .i64 2]) ∧ Below w.heap.size w w' := by
  by_cases h1 : OkH s.h
  · by_cases h2 : Right s.n s.os ∧ s.n = s.h.n
    · exact fview_bad3 co hz m h1 h2.1 h2.2 fun h => hk ⟨h1, h2.1, h2.2, h⟩
    · exact fview_bad2 co hz m h1 h2
  · exact fview_bad1 co hz m hs h1
set_option maxHeartbeats 1000000 in
theorem fcheck_any (hz : Sizes w) (m : SM w v O s) (hs : Short s.h) (y : Int) (hy : (OkS s ∧ y = 0) ∨ (¬ OkS s ∧ y = 2)) :
    Calls Tryz.prog 59 #[scV v O co s] w fun e w' => e = .returned (.int .i64 y) ∧ Below w.heap.size w w' := by
  rcases hy with ⟨hk, rfl⟩ | ⟨hk, rfl⟩
  · have HV := Lib.hid fun (w : World) z m => fview_ok (w := w) (v := v) (O := O) (s := s) co z m hk
    clear hk hs
    unfold scV at HV ⊢
    go_enter Tryz.func59, Tryz.ntmps59
    go_wp2_with fail
    go_at_call 123
    refine (HV.out _ (hz.later bX) (m.later bX)).mono ?_
    rintro e w1 ⟨rfl, hb_w1⟩
    obtain ⟨hc_w1, hf_w1⟩ := bcell hb_w1; have hz_w1_w_0 : w.heap.size < w1.heap.size := lY hb_w1.size; have hs_w1 := hb_w1.size; (try simp only [zZ] at hs_w1)
    go_wp2
    go_ret
    exact ⟨rfl, bX⟩
  · have HV := Lib.hid fun (w : World) z m => fview_bad (w := w) (v := v) (O := O) (s := s) co z m hs hk
    clear hk hs
    unfold scV at HV ⊢
    go_enter Tryz.func59, Tryz.ntmps59
    go_wp2_with fail
    go_at_call 123
    refine (HV.out _ (hz.later bX) (m.later bX)).mono ?_
    rintro e w1 ⟨rfl, hb_w1⟩
    obtain ⟨hc_w1, hf_w1⟩ := bcell hb_w1; have hz_w1_w_0 : w.heap.size < w1.heap.size := lY hb_w1.size; have hs_w1 := hb_w1.size; (try simp only [zZ] at hs_w1)
    go_wp2
    go_ret
    exact ⟨rfl, bX⟩
set_option maxHeartbeats 2000000 in
theorem ftwin_any (m : SM w v O s) (hk : OkS s) (hnil : v.V = none → v.cv = 0) :
    Calls Tryz.prog 124 #[scV v O co s] w fun e w' => ∃ v' O' co', e = .returned (scV v' O' co' s) ∧ OwnsSc w' w.heap.size v' O' s ∧ Below w.heap.size w w' := by
  have HP := Lib.hid fun (w : World) m => plainH_any (w := w) (v := v) (h := s.h) m hk.h.framed hnil
  have hO : O = none → co = 0 := fun e => by
    have h1 := hk.o.2.2.1
    have h2 := hk.h.framed.some_
    have h3 := hk.n
    obtain ⟨b, off, e2, _⟩ := m.o.at_ (by omega)
    rw [e] at e2; cases e2
  have hl : s.os.length ≤ 17592186044416 := by have := right_len hk.o; omega
  have HW := Lib.hid fun (w : World) hr => wclone_any (w := w) (A := O) (t := s.os) co hr hl hO
  clear hk hnil hO hl
  unfold CopiedN at HW
  unfold scV
  unfold hpV hpv at HP
  go_enter Tryz.func124, Tryz.ntmps124
  go_wp2_with fail
  go_at_call 134
  refine (HP.out _ (m.h.later bX)).mono ?_
  rintro e w1 ⟨v2, rfl, o2, hb_w1⟩
  obtain ⟨hc_w1, hf_w1⟩ := bcell hb_w1; have hz_w1_w_0 : w.heap.size < w1.heap.size := lY hb_w1.size; have hz_w1_w_1 : w.heap.size + 1 < w1.heap.size := lY hb_w1.size; have hs_w1 := hb_w1.size; (try simp only [zZ] at hs_w1)
  have b1 : Below w.heap.size w w1 := bX
  have t0 := ((E8.new w (.slice v.A s.h.ws.length v.ca) (.int .i64 s.h.n) (.slice v.U s.h.us.length v.cu) (.slice v.V s.h.l.length v.cv) (.int .i64 s.n) (.slice O s.os.length co) (.int .u64 (s.fa : Nat)) (.int .u64 (s.go : Nat)) 184).later ((Below.refl _ _).alloc (Nat.le_refl _) (.cells #[.slice none 0 0, .int .i64 0, .slice none 0 0, .slice none 0 0, .int .i64 0, .slice none 0 0, .int .u64 0, .int .u64 0] 184))).later hb_w1
  have t1 := (E8.new (w.alloc (.cells #[.slice v.A s.h.ws.length v.ca, .int .i64 s.h.n, .slice v.U s.h.us.length v.cu, .slice v.V s.h.l.length v.cv, .int .i64 s.n, .slice O s.os.length co, .int .u64 (s.fa : Nat), .int .u64 (s.go : Nat)] 184)) (.slice none 0 0) (.int .i64 0) (.slice none 0 0) (.slice none 0 0) (.int .i64 0) (.slice none 0 0) (.int .u64 0) (.int .u64 0) 184).later hb_w1
  simp only [zA] at t0 t1 o2
  have z1 := t1.lt
  clear hc_w1 hf_w1
  obtain ⟨x0, x1, x2, x3, x4, x5, x6, x7, xf⟩ := id t0
  go_wp2_with fail
  generalize hW : (((w1.setCell ⟨w.heap.size, 0, none⟩ (.slice v2.A s.h.ws.length v2.ca)).setCell ⟨w.heap.size, 1, none⟩ (.int .i64 s.h.n)).setCell ⟨w.heap.size, 2, none⟩ (.slice v2.U s.h.us.length v2.cu)).setCell ⟨w.heap.size, 3, none⟩ (.slice v2.V s.h.l.length v2.cv) = W at *
  have t2 : E8 W w.heap.size (.slice v2.A s.h.ws.length v2.ca) (.int .i64 s.h.n) (.slice v2.U s.h.us.length v2.cu) (.slice v2.V s.h.l.length v2.cv) (.int .i64 s.n) (.slice O s.os.length co) (.int .u64 (s.fa : Nat)) (.int .u64 (s.go : Nat)) := by rw [← hW]; exact (((t0.set0 _).set1 _).set2 _).set3 _
  have t3 : E8 W (w.heap.size + 1) (.slice none 0 0) (.int .i64 0) (.slice none 0 0) (.slice none 0 0) (.int .i64 0) (.slice none 0 0) (.int .u64 0) (.int .u64 0) := by rw [← hW]; exact (((t1.far (p := ⟨w.heap.size, 0, none⟩) (by show w.heap.size ≠ w.heap.size + 1; omega) _).far (p := ⟨w.heap.size, 1, none⟩) (by show w.heap.size ≠ w.heap.size + 1; omega) _).far (p := ⟨w.heap.size, 2, none⟩) (by show w.heap.size ≠ w.heap.size + 1; omega) _).far (p := ⟨w.heap.size, 3, none⟩) (by show w.heap.size ≠ w.heap.size + 1; omega) _
  have o3 : OwnsH W (w.heap.size + 2) v2 s.h := by rw [← hW]; exact (((o2.far (p := ⟨w.heap.size, 0, none⟩) (by show w.heap.size < w.heap.size + 2; omega) _).far (p := ⟨w.heap.size, 1, none⟩) (by show w.heap.size < w.heap.size + 2; omega) _).far (p := ⟨w.heap.size, 2, none⟩) (by show w.heap.size < w.heap.size + 2; omega) _).far (p := ⟨w.heap.size, 3, none⟩) (by show w.heap.size < w.heap.size + 2; omega) _
  have b2 : Below w.heap.size w W := by rw [← hW]; exact (((b1.setCell (p := ⟨w.heap.size, 0, none⟩) (Nat.le_refl _) _).setCell (p := ⟨w.heap.size, 1, none⟩) (Nat.le_refl _) _).setCell (p := ⟨w.heap.size, 2, none⟩) (Nat.le_refl _) _).setCell (p := ⟨w.heap.size, 3, none⟩) (Nat.le_refl _) _
  have s2 : w.heap.size + 2 ≤ W.heap.size := by rw [← hW]; simp only [zS]; omega
  clear hW t0 t1 o2 b1 hb_w1 z1 x0 x1 x2 x3 x4 x5 x6 x7 xf
  obtain ⟨x0, x1, x2, x3, x4, x5, x6, x7, xf⟩ := id t2
  go_at_call 155
  refine (HW.out _ (m.o.later b2)).mono ?_
  rintro e w2 ⟨A3, c3, rfl, r3, hb_w2⟩
  have t4 := t2.later hb_w2
  have t5 := t3.later hb_w2
  have o4 := o3.later hb_w2
  have b3 := b2.trans (hb_w2.mono b2.size)
  have w4 := r3.own.mono s2
  clear t2 t3 o3 b2 r3 x0 x1 x2 x3 x4 x5 x6 x7 xf
  have t6 := t4.set5 (.slice A3 s.os.length c3)
  have t7 := t5.far (p := ⟨w.heap.size, 5, none⟩) (by show w.heap.size ≠ w.heap.size + 1; omega) (.slice A3 s.os.length c3)
  have o6 := (OwnsSc.mk (s := s) o4 w4).h.far (p := ⟨w.heap.size, 5, none⟩) (by show w.heap.size < w.heap.size + 2; omega) (.slice A3 s.os.length c3)
  have w6 := w4.far (p := ⟨w.heap.size, 5, none⟩) (.inl (by show w.heap.size < w.heap.size + 2; omega)) (.slice A3 s.os.length c3)
  have b6 := b3.setCell (p := ⟨w.heap.size, 5, none⟩) (Nat.le_refl _) (.slice A3 s.os.length c3)
  obtain ⟨x0, x1, x2, x3, x4, x5, x6, x7, xf⟩ := id t4
  obtain ⟨y0, y1, y2, y3, y4, y5, y6, y7, yf⟩ := id t5
  go_wp2
  exact bodyPost_ret (res_sw1 rfl rfl (t7.all _ _ _ _ _ _ _ _)) rfl ⟨v2, A3, c3, rfl, ((OwnsSc.mk (s := s) o6 w6).over8 (g := w.heap.size + 1) (by omega) _ _ _ _ _ _ _ _).mono (by omega), below8 (g := w.heap.size + 1) b6 (by omega) _ _ _ _ _ _ _ _⟩
end
theorem wrap_add (x y : Nat) : IntKind.u64.wrap ((x : Int) + (y : Int)) = (((x + y) % W64 : Nat) : Int) := by
  unfold W64
  simp [IntKind.wrap, IntKind.bits]
  intro h
  cases h
section
variable {A B : Option Addr} {ws ps : List Nat} {w : World} (cap cap' : Nat)
end
set_option maxHeartbeats 4000000 in
theorem frel_any {w : World} {b B : Nat} {v : Hv} {O : Option Addr} {co : Nat} {s : Sc} (hx : E8 w b (.slice v.A s.h.ws.length v.ca) (.int .i64 s.h.n) (.slice v.U s.h.us.length v.cu) (.slice v.V s.h.l.length v.cv) (.int .i64 s.n) (.slice O s.os.length co) (.int .u64 (s.fa : Nat)) (.int .u64 (s.go : Nat))) (m : OwnsSc w B v O s) (hb : b < B) (hB : B ≤ w.heap.size) (hk : OkS s) (q : Nat) (hq : q ≤ 9223372036854775807) (s' : Sc) (e' : s' = relSc s q) :
    Calls Tryz.prog 127 #[.pointer (some ⟨b, 0, none⟩), .int .i64 (q : Nat)] w fun e w' => ∃ O' co', e = .returned (.int .i64 (relG s.h.us s.n.toNat s.os q : Nat)) ∧ E8 w' b (.slice v.A s'.h.ws.length v.ca) (.int .i64 s'.h.n) (.slice v.U s'.h.us.length v.cu) (.slice v.V s'.h.l.length v.cv) (.int .i64 s'.n) (.slice O' s'.os.length co') (.int .u64 (s'.fa : Nat)) (.int .u64 (s'.go : Nat)) ∧ OwnsSc w' B v O' s' ∧ w.grownBy w' (some b) := by
  obtain ⟨h, n, os, fa, go⟩ := s
  subst e'
  unfold relSc
  simp only at *
  obtain ⟨n0, n1, n2⟩ := hk.nn
  simp only at n0 n1 n2
  obtain ⟨N, rfl⟩ : ∃ N : Nat, n = (N : Int) := ⟨n.toNat, by omega⟩
  simp only [Int.toNat_natCast] at *
  have HSP := Lib.hid fun (w : World) (O : Option Addr) (co : Nat) (os : List Nat) m hk i hi => fspare_any (w := w) (v := v) (O := O) (s := ⟨h, (N : Nat), os, fa, go⟩) co m hk i hi
  unfold scV at HSP
  simp only at HSP
  have HPU := Lib.hid fun (w : World) (O : Option Addr) (co : Nat) (os : List Nat) (i : Nat) hr (hR : Right (N : Nat) os) hi => put_in (N := (N : Nat)) (A := O) (ws := os) (w := w) (cap := co) (v := true) (i := (i : Int)) hr hR (by omega) hi
  simp only [Int.toNat_natCast] at HPU
  unfold Fresh at HPU
  obtain ⟨RW, hRW⟩ : ∃ x, Hid (relW h.us N os q = x) := ⟨_, Lib.hid rfl⟩
  obtain ⟨RG, hRG⟩ : ∃ x, Hid (relG h.us N os q = x) := ⟨_, Lib.hid rfl⟩
  rw [hRW.out, hRG.out]
  have m0 := Lib.hid m
  have hx0 := Lib.hid hx
  have hk0 := Lib.hid hk
  have hRGle : RG ≤ q ∧ RG ≤ N := by
    have p := relP h.us (N : Nat) N os q (by omega) hk.o
    have c1 := p.count
    have c2 := countTo_le (relW h.us N os q) N
    have c3 := p.le
    simp only [Int.toNat_natCast] at c1
    rw [hRG.out] at c1 c3
    omega
  clear m hk
  obtain ⟨x0, x1, x2, x3, x4, x5, x6, x7, xf⟩ := id hx
  go_enter Tryz.func127, Tryz.ntmps127
  go_wp2_with fail
  clear x0 x1 x2 x3 x4 x5 x6 x7 xf
  go_loopw [5, 6] (fun gv pv wr => ∃ (p : Int) (k g : Nat) (O1 : Option Addr) (c1 : Nat) (os1 : List Nat), pv = .int .i64 p ∧ p = (k : Int) - 1 ∧ gv = .int .i64 (g : Nat) ∧ k + g ≤ N ∧ relW h.us k os1 (q - g) = RW ∧ g + relG h.us k os1 (q - g) = RG ∧ OkS ⟨h, (N : Nat), os1, fa, go⟩ ∧ E8 wr b (.slice v.A h.ws.length v.ca) (.int .i64 h.n) (.slice v.U h.us.length v.cu) (.slice v.V h.l.length v.cv) (.int .i64 (N : Nat)) (.slice O1 os1.length c1) (.int .u64 (fa : Nat)) (.int .u64 (go : Nat)) ∧ OwnsSc wr B v O1 ⟨h, (N : Nat), os1, fa, go⟩ ∧ w.grownBy wr (some b)) (fun gv pv _ => (intOf pv + 1).toNat)
  case atStart => exact ⟨(N : Int) - 1, N, 0, O, co, os, by go_num, rfl, rfl, by omega, hRW.out, by rw [Nat.zero_add]; exact hRG.out, hk0.out, hx0.out, m0.out, grF_refl _ _⟩
  case round =>
    obtain ⟨p, k, g, O1, c1, os1, rfl, hp, rfl, hkg, eW, eG, hk, hx, m, hg⟩ := hrel
    have hsz := hg.size
    have hlt := hx.lt
    by_cases hk0 : k = 0
    · subst hk0
      have f1 : decide (p ≥ 0) = false := decide_eq_false (by omega)
      have f2 : decide ((0 : Int) ≤ p) = false := decide_eq_false (by omega)
      clear hp
      have EW : os1 = RW := by rw [← eW]; rfl
      have EG : g = RG := by rw [← eG]; show g = g + 0; omega
      subst EW EG
      clear eW eG
      have hfu : IntKind.u64.wrap ((g : Nat) : Int) = ((g : Nat) : Int) := IntWalk.u64_in _ (by omega)
      have hadd := wrap_add go g
      have t2 := hx.set7 (.int .u64 (((go + g) % W64 : Nat) : Int))
      have o2 := OwnsSc.mk (s := ⟨h, (N : Nat), os1, fa, ((go + g) % W64)⟩) (m.h.far (p := ⟨b, 7, none⟩) hb (.int .u64 (((go + g) % W64 : Nat) : Int))) (m.o.far (p := ⟨b, 7, none⟩) (.inl hb) (.int .u64 (((go + g) % W64 : Nat) : Int)))
      have g2 := grF_set hg 7 (.int .u64 (((go + g) % W64 : Nat) : Int))
      obtain ⟨x0, x1, x2, x3, x4, x5, x6, x7, xf⟩ := id hx
      go_wp2
      go_ret
      exact ⟨O1, c1, rfl, t2, o2, g2⟩
    · obtain ⟨i, rfl⟩ : ∃ i, k = i + 1 := ⟨k - 1, by omega⟩
      obtain rfl : p = (i : Int) := by omega
      clear hp hk0
      have f1 : decide ((i : Int) ≥ 0) = true := decide_eq_true (by omega)
      have f2 : decide ((0 : Int) ≤ (i : Int)) = true := decide_eq_true (by omega)
      by_cases hgq : g < q
      · have f3 : decide ((g : Int) < (q : Int)) = true := decide_eq_true (by omega)
        have f4 : decide (g < q) = true := decide_eq_true hgq
        have hiN : (i : Int) < (N : Int) := by omega
        have hR1 := hk.o
        obtain ⟨x0, x1, x2, x3, x4, x5, x6, x7, xf⟩ := id hx
        go_wp2_with fail
        go_at_call 201
        refine (HSP.out _ _ _ _ m.sm hk i hiN).mono ?_
        rintro e w1 ⟨rfl, hb_w1⟩
        have hx1 := hx.later hb_w1
        have m1 := m.later hb_w1
        have hg1 := grF_later hg hb_w1
        have hs1 := hb_w1.size
        clear hb_w1 x0 x1 x2 x3 x4 x5 x6 x7 xf
        rcases hsp : (!tb h.us i && !tb os1 i) with _ | _
        · have eW2 := (relW_miss h.us i os1 (q - g) hsp).symm.trans eW
          have eG2 := (congrArg (g + ·) (relG_miss h.us i os1 (q - g) hsp)).symm.trans eG
          (try simp only at eG2)
          have HW2 := Lib.hid eW2
          have HG2 := Lib.hid eG2
          have HK2 := Lib.hid hk
          clear eW eG eW2 eG2 hk hx m hg
          go_wp2
          go_roundw
          case rel => exact ⟨(i : Int) - 1, i, g, O1, c1, os1, by go_num, rfl, rfl, by omega, HW2.out, HG2.out, HK2.out, hx1, m1, hg1⟩
          case measure => simp [intOf]; try omega
        · have eW2 := (relW_hit h.us i os1 (q - g) (by omega) hsp).symm.trans eW
          have eG2 := (congrArg (g + ·) (relG_hit h.us i os1 (q - g) (by omega) hsp)).symm.trans eG
          (try simp only at eG2)
          have hus : tb h.us i = false := by
            rcases hh : tb h.us i with _ | _
            · rfl
            · rw [hh] at hsp; cases hsp
          have HW2 : Hid (relW h.us i (putW os1 i true) (q - (g + 1)) = RW) := Lib.hid (by rw [← eW2]; rfl)
          have HG2 : Hid (g + 1 + relG h.us i (putW os1 i true) (q - (g + 1)) = RG) := Lib.hid (by rw [← eG2, show q - g - 1 = q - (g + 1) by omega]; omega)
          have hk2 : OkS ⟨h, (N : Nat), putW os1 i true, fa, go⟩ := okS_of hk.h (right_putW hR1 i true hiN) hk.n fun j hj ho => by
            have ho : tb (putW os1 i true) j = true := ho
            have hj : j < N := by simpa using hj
            have hl := hR1.long
            rw [tb_putW os1 i j true (by omega)] at ho
            by_cases e : j = i
            · subst e; exact hus
            · rw [if_neg e] at ho
              exact hk.apart (s := ⟨h, (N : Nat), os1, fa, go⟩) (by simpa using hj) ho
          have HK2 := Lib.hid hk2
          clear eW eG eW2 eG2 hk hk2 hx m hg
          obtain ⟨x0, x1, x2, x3, x4, x5, x6, x7, xf⟩ := id hx1
          go_wp2_with fail
          go_at_call 140
          refine (HPU.out _ _ _ _ _ m1.o.row hR1 hiN).mono ?_
          rintro e w2 ⟨A2, c2, rfl, o2, hb_w2⟩
          have hx2 := hx1.later hb_w2
          have mh := m1.h.later hb_w2
          have hg2 := grF_later hg1 hb_w2
          have hs2 := hb_w2.size
          have o3 := o2.mono (B' := B) (by omega)
          clear hb_w2 x0 x1 x2 x3 x4 x5 x6 x7 xf
          have hx3 := (hx2.set4 (.int .i64 (N : Nat))).set5 (.slice A2 (putW os1 i true).length c2)
          have m3 := OwnsSc.mk (s := ⟨h, (N : Nat), putW os1 i true, fa, go⟩) ((mh.far (p := ⟨b, 4, none⟩) hb (.int .i64 (N : Nat))).far (p := ⟨b, 5, none⟩) hb (.slice A2 (putW os1 i true).length c2)) ((o3.far (p := ⟨b, 4, none⟩) (.inl hb) (.int .i64 (N : Nat))).far (p := ⟨b, 5, none⟩) (.inl hb) (.slice A2 (putW os1 i true).length c2))
          have hg3 := grF_set (grF_set hg2 4 (.int .i64 (N : Nat))) 5 (.slice A2 (putW os1 i true).length c2)
          obtain ⟨x0, x1, x2, x3, x4, x5, x6, x7, xf⟩ := id hx2
          clear hx1 m1 hg1 mh hg2 o2 o3
          go_wp2
          go_roundw
          case rel => exact ⟨(i : Int) - 1, i, g + 1, A2, c2, putW os1 i true, by go_num, rfl, by go_num, by omega, HW2.out, HG2.out, HK2.out, hx3, m3, hg3⟩
          case measure => simp [intOf]; try omega
      · have f3 : decide ((g : Int) < (q : Int)) = false := decide_eq_false (by omega)
        have f4 : decide (g < q) = false := decide_eq_false hgq
        have hz : q - g = 0 := by omega
        rw [hz] at eW eG
        have EW : os1 = RW := by rw [← eW]; exact (relW_zero _ _ _).symm
        have EG : g = RG := by rw [← eG]; rw [relG_zero, Nat.add_zero]
        subst EW EG
        clear eW eG
        have hfu : IntKind.u64.wrap ((g : Nat) : Int) = ((g : Nat) : Int) := IntWalk.u64_in _ (by omega)
        have hadd := wrap_add go g
        have t2 := hx.set7 (.int .u64 (((go + g) % W64 : Nat) : Int))
        have o2 := OwnsSc.mk (s := ⟨h, (N : Nat), os1, fa, ((go + g) % W64)⟩) (m.h.far (p := ⟨b, 7, none⟩) hb (.int .u64 (((go + g) % W64 : Nat) : Int))) (m.o.far (p := ⟨b, 7, none⟩) (.inl hb) (.int .u64 (((go + g) % W64 : Nat) : Int)))
        have g2 := grF_set hg 7 (.int .u64 (((go + g) % W64 : Nat) : Int))
        obtain ⟨x0, x1, x2, x3, x4, x5, x6, x7, xf⟩ := id hx
        go_wp2
        go_ret
        exact ⟨O1, c1, rfl, t2, o2, g2⟩
def FreshSi (w : World) (s' : Sc) (g : Int) (y : Int) (e : Ending) (w' : World) : Prop := ∃ v O c, e = .returned (.tuple #[scV v O c s', .int .i64 g, .int .i64 y]) ∧ OwnsSc w' w.heap.size v O s' ∧ Below w.heap.size w w'
def RelE (s : Sc) (q : Int) (s' : Sc) (g : Int) (y : Int) : Prop := (¬ OkS s ∧ s' = sc0 ∧ g = 0 ∧ y = 2) ∨ (OkS s ∧ q < 0 ∧ s' = s ∧ g = 0 ∧ y = 1) ∨ (OkS s ∧ 0 ≤ q ∧ s' = relSc s q.toNat ∧ g = (relG s.h.us s.n.toNat s.os q.toNat : Nat) ∧ y = 0)
theorem RelE.ex (s : Sc) (q : Int) : ∃ s' g y, RelE s q s' g y := by
  by_cases hk : OkS s
  · by_cases hq : q < 0
    · exact ⟨_, _, _, .inr (.inl ⟨hk, hq, rfl, rfl, rfl⟩)⟩
    · exact ⟨_, _, _, .inr (.inr ⟨hk, by omega, rfl, rfl, rfl⟩)⟩
  · exact ⟨_, _, _, .inl ⟨hk, rfl, rfl, rfl⟩⟩
def keeQ (s : Sc) (q : Int) : Nat := (s.n - (countTo s.os s.n.toNat : Nat) - q).toNat
def KeeE (s : Sc) (q : Int) (s' : Sc) (g : Int) (y : Int) : Prop := (¬ OkS s ∧ s' = sc0 ∧ g = 0 ∧ y = 2) ∨ (OkS s ∧ q < 0 ∧ s' = s ∧ g = 0 ∧ y = 1) ∨ (OkS s ∧ 0 ≤ q ∧ s' = relSc s (keeQ s q) ∧ g = (relG s.h.us s.n.toNat s.os (keeQ s q) : Nat) ∧ y = 0)
theorem KeeE.ex (s : Sc) (q : Int) : ∃ s' g y, KeeE s q s' g y := by
  by_cases hk : OkS s
  · by_cases hq : q < 0
    · exact ⟨_, _, _, .inr (.inl ⟨hk, hq, rfl, rfl, rfl⟩)⟩
    · exact ⟨_, _, _, .inr (.inr ⟨hk, by omega, rfl, rfl, rfl⟩)⟩
  · exact ⟨_, _, _, .inl ⟨hk, rfl, rfl, rfl⟩⟩
theorem Two.off1 {w : World} {g : Nat} {u0 u1 : Value} (h : Two w g u0 u1) {p : Addr} (hp : p.block ≠ g) (u : Value) : Two (w.setCell p u) g u0 u1 :=
  ⟨(cO _ _ _ _ (fun e => hp (by rw [e]))).trans h.c0, (cO _ _ _ _ (fun e => hp (by rw [e]))).trans h.c1, fun i => by rw [World.frozen?_setCell]; exact h.fr i⟩
section
variable {w : World} {v : Hv} {O : Option Addr} {s : Sc} (co : Nat)
set_option maxHeartbeats 4000000 in
theorem frelease_any (hz : Sizes w) (m : SM w v O s) (hs : Short s.h) (hnil : v.V = none → v.cv = 0) (q : Int) (hq : -9223372036854775808 ≤ q ∧ q ≤ 9223372036854775807) (s' : Sc) (g y : Int) (hE : RelE s q s' g y) :
    Calls Tryz.prog 47 #[scV v O co s, .int .i64 q] w fun e w' => FreshSi w s' g y e w' := by
  unfold FreshSi
  rcases hE with ⟨hk, rfl, rfl, rfl⟩ | ⟨hk, h0, hss, rfl, rfl⟩ | ⟨hk, h0, he, hge, rfl⟩
  · have HV := Lib.hid fun (w : World) z m => fview_bad (w := w) (v := v) (O := O) (s := s) co z m hs hk
    clear hk hs
    unfold scV at HV ⊢
    go_enter Tryz.func47, Tryz.ntmps47
    go_wp2_with fail
    go_at_call 123
    refine (HV.out _ (hz.later bX) (m.later bX)).mono ?_
    rintro e w1 ⟨rfl, hb_w1⟩
    obtain ⟨hc_w1, hf_w1⟩ := bcell hb_w1; have hz_w1_w_0 : w.heap.size < w1.heap.size := lY hb_w1.size; have hz_w1_w_1 : w.heap.size + 1 < w1.heap.size := lY hb_w1.size; have hs_w1 := hb_w1.size; (try simp only [zZ] at hs_w1)
    have b1 : Below w.heap.size w w1 := bX
    have t0 := (E8.new (w.alloc (.cells #[.slice v.A s.h.ws.length v.ca, .int .i64 s.h.n, .slice v.U s.h.us.length v.cu, .slice v.V s.h.l.length v.cv, .int .i64 s.n, .slice O s.os.length co, .int .u64 (s.fa : Nat), .int .u64 (s.go : Nat)] 64)) (.slice none 0 0) (.int .i64 0) (.slice none 0 0) (.slice none 0 0) (.int .i64 0) (.slice none 0 0) (.int .u64 0) (.int .u64 0) 64).later hb_w1
    simp only [zA] at t0
    obtain ⟨y0, y1, y2, y3, y4, y5, y6, y7, yf⟩ := id t0
    have ylt := t0.lt
    unfold hv0 sc0 hp0 at *
    simp only at *
    have u0 := (t0.all (.slice none 0 0) (.int .i64 0) (.slice none 0 0) (.slice none 0 0) (.int .i64 0) (.slice none 0 0) (.int .u64 0) (.int .u64 0)).later ((Below.refl _ _).alloc (Nat.le_refl _) (.cells #[.slice none 0 0, .int .i64 0, .slice none 0 0, .slice none 0 0, .int .i64 0, .slice none 0 0, .int .u64 0, .int .u64 0] 184))
    have b2 := (below8 (g := w.heap.size + 1) b1 (by omega) (.slice none 0 0) (.int .i64 0) (.slice none 0 0) (.slice none 0 0) (.int .i64 0) (.slice none 0 0) (.int .u64 0) (.int .u64 0)).alloc (by rw [size8]; omega) (.cells #[.slice none 0 0, .int .i64 0, .slice none 0 0, .slice none 0 0, .int .i64 0, .slice none 0 0, .int .u64 0, .int .u64 0] 184)
    clear hc_w1 hf_w1
    go_wp2
    exact bodyPost_ret (res_ss3 rfl rfl u0) rfl ⟨hv0, none, 0, rfl, OwnsSc.zero _ _, b2⟩
  · have hss := hss.symm
    subst hss
    have HV := Lib.hid fun (w : World) z m => fview_ok (w := w) (v := v) (O := O) (s := s) co z m hk
    have HT := Lib.hid fun (w : World) m => ftwin_any (w := w) (v := v) (O := O) (s := s) co m hk hnil
    clear hk hs
    unfold scV at HV HT ⊢
    have f1 : decide (q < 0) = true := decide_eq_true h0
    go_enter Tryz.func47, Tryz.ntmps47
    go_wp2_with fail
    go_at_call 123
    refine (HV.out _ (hz.later bX) (m.later bX)).mono ?_
    rintro e w1 ⟨rfl, hb_w1⟩
    obtain ⟨hc_w1, hf_w1⟩ := bcell hb_w1; have hz_w1_w_0 : w.heap.size < w1.heap.size := lY hb_w1.size; have hz_w1_w_1 : w.heap.size + 1 < w1.heap.size := lY hb_w1.size; have hs_w1 := hb_w1.size; (try simp only [zZ] at hs_w1)
    have b1 : Below w.heap.size w w1 := bX
    have t0 := (E8.new (w.alloc (.cells #[.slice v.A s.h.ws.length v.ca, .int .i64 s.h.n, .slice v.U s.h.us.length v.cu, .slice v.V s.h.l.length v.cv, .int .i64 s.n, .slice O s.os.length co, .int .u64 (s.fa : Nat), .int .u64 (s.go : Nat)] 64)) (.slice none 0 0) (.int .i64 0) (.slice none 0 0) (.slice none 0 0) (.int .i64 0) (.slice none 0 0) (.int .u64 0) (.int .u64 0) 64).later hb_w1
    simp only [zA] at t0
    have t1 := E8.new w1 (.slice v.A s.h.ws.length v.ca) (.int .i64 s.h.n) (.slice v.U s.h.us.length v.cu) (.slice v.V s.h.l.length v.cv) (.int .i64 s.n) (.slice O s.os.length co) (.int .u64 (s.fa : Nat)) (.int .u64 (s.go : Nat)) 184
    have t0 := t0.later ((Below.refl _ _).alloc (Nat.le_refl _) (.cells #[.slice v.A s.h.ws.length v.ca, .int .i64 s.h.n, .slice v.U s.h.us.length v.cu, .slice v.V s.h.l.length v.cv, .int .i64 s.n, .slice O s.os.length co, .int .u64 (s.fa : Nat), .int .u64 (s.go : Nat)] 184))
    have zt := t0.lt
    clear hc_w1 hf_w1
    go_wp2_with fail
    go_at_call 124
    refine (HT.out _ ((m.later b1).later bX)).mono ?_
    rintro e w2 ⟨v2, O2, c2, rfl, o2, hb_w2⟩
    have t0 := t0.later hb_w2
    have t1 := t1.later hb_w2
    have s2 := hb_w2.size
    simp only [zA] at o2 s2 zt
    have b2 : Below w.heap.size w w2 := bX
    have sw := b1.size
    have t1' := t1.all (.slice v2.A s.h.ws.length v2.ca) (.int .i64 s.h.n) (.slice v2.U s.h.us.length v2.cu) (.slice v2.V s.h.l.length v2.cv) (.int .i64 s.n) (.slice O2 s.os.length c2) (.int .u64 (s.fa : Nat)) (.int .u64 (s.go : Nat))
    have t0' := t0.over (g := w1.heap.size) (by omega) (.slice v2.A s.h.ws.length v2.ca) (.int .i64 s.h.n) (.slice v2.U s.h.us.length v2.cu) (.slice v2.V s.h.l.length v2.cv) (.int .i64 s.n) (.slice O2 s.os.length c2) (.int .u64 (s.fa : Nat)) (.int .u64 (s.go : Nat))
    have o2' := o2.over8 (g := w1.heap.size) (by omega) (.slice v2.A s.h.ws.length v2.ca) (.int .i64 s.h.n) (.slice v2.U s.h.us.length v2.cu) (.slice v2.V s.h.l.length v2.cv) (.int .i64 s.n) (.slice O2 s.os.length c2) (.int .u64 (s.fa : Nat)) (.int .u64 (s.go : Nat))
    have b2' := below8 (g := w1.heap.size) b2 (by omega) (.slice v2.A s.h.ws.length v2.ca) (.int .i64 s.h.n) (.slice v2.U s.h.us.length v2.cu) (.slice v2.V s.h.l.length v2.cv) (.int .i64 s.n) (.slice O2 s.os.length c2) (.int .u64 (s.fa : Nat)) (.int .u64 (s.go : Nat))
    obtain ⟨x0, x1, x2, x3, x4, x5, x6, x7, xf⟩ := id t1
    obtain ⟨y0, y1, y2, y3, y4, y5, y6, y7, yf⟩ := id t0
    go_wp2
    exact bodyPost_ret (res_ss3 rfl rfl (t0'.all (.slice v2.A s.h.ws.length v2.ca) (.int .i64 s.h.n) (.slice v2.U s.h.us.length v2.cu) (.slice v2.V s.h.l.length v2.cv) (.int .i64 s.n) (.slice O2 s.os.length c2) (.int .u64 (s.fa : Nat)) (.int .u64 (s.go : Nat)))) rfl ⟨v2, O2, c2, rfl, (o2'.over8 (g := w.heap.size + 1) (by omega) (.slice v2.A s.h.ws.length v2.ca) (.int .i64 s.h.n) (.slice v2.U s.h.us.length v2.cu) (.slice v2.V s.h.l.length v2.cv) (.int .i64 s.n) (.slice O2 s.os.length c2) (.int .u64 (s.fa : Nat)) (.int .u64 (s.go : Nat))).mono (by omega), below8 (g := w.heap.size + 1) b2' (by omega) (.slice v2.A s.h.ws.length v2.ca) (.int .i64 s.h.n) (.slice v2.U s.h.us.length v2.cu) (.slice v2.V s.h.l.length v2.cv) (.int .i64 s.n) (.slice O2 s.os.length c2) (.int .u64 (s.fa : Nat)) (.int .u64 (s.go : Nat))⟩
  · have HV := Lib.hid fun (w : World) z m => fview_ok (w := w) (v := v) (O := O) (s := s) co z m hk
    have HT := Lib.hid fun (w : World) m => ftwin_any (w := w) (v := v) (O := O) (s := s) co m hk hnil
    have f1 : decide (q < 0) = false := decide_eq_false (by omega)
    obtain ⟨Q, rfl⟩ : ∃ Q : Nat, q = (Q : Int) := ⟨q.toNat, by omega⟩
    simp only [Int.toNat_natCast] at he hge
    have HRL := Lib.hid fun (w : World) (b B : Nat) (v : Hv) (O : Option Addr) (co : Nat) hx m hb hB => frel_any (w := w) (b := b) (B := B) (v := v) (O := O) (co := co) (s := s) hx m hb hB hk Q (by omega) s' he
    rw [← hge] at HRL
    clear hk hs he hge
    unfold scV at HV HT ⊢
    go_enter Tryz.func47, Tryz.ntmps47
    go_wp2_with fail
    go_at_call 123
    refine (HV.out _ (hz.later bX) (m.later bX)).mono ?_
    rintro e w1 ⟨rfl, hb_w1⟩
    obtain ⟨hc_w1, hf_w1⟩ := bcell hb_w1; have hz_w1_w_0 : w.heap.size < w1.heap.size := lY hb_w1.size; have hz_w1_w_1 : w.heap.size + 1 < w1.heap.size := lY hb_w1.size; have hs_w1 := hb_w1.size; (try simp only [zZ] at hs_w1)
    have b1 : Below w.heap.size w w1 := bX
    have t0 := (E8.new (w.alloc (.cells #[.slice v.A s.h.ws.length v.ca, .int .i64 s.h.n, .slice v.U s.h.us.length v.cu, .slice v.V s.h.l.length v.cv, .int .i64 s.n, .slice O s.os.length co, .int .u64 (s.fa : Nat), .int .u64 (s.go : Nat)] 64)) (.slice none 0 0) (.int .i64 0) (.slice none 0 0) (.slice none 0 0) (.int .i64 0) (.slice none 0 0) (.int .u64 0) (.int .u64 0) 64).later hb_w1
    simp only [zA] at t0
    have t1 := E8.new w1 (.slice v.A s.h.ws.length v.ca) (.int .i64 s.h.n) (.slice v.U s.h.us.length v.cu) (.slice v.V s.h.l.length v.cv) (.int .i64 s.n) (.slice O s.os.length co) (.int .u64 (s.fa : Nat)) (.int .u64 (s.go : Nat)) 184
    have t0 := t0.later ((Below.refl _ _).alloc (Nat.le_refl _) (.cells #[.slice v.A s.h.ws.length v.ca, .int .i64 s.h.n, .slice v.U s.h.us.length v.cu, .slice v.V s.h.l.length v.cv, .int .i64 s.n, .slice O s.os.length co, .int .u64 (s.fa : Nat), .int .u64 (s.go : Nat)] 184))
    have zt := t0.lt
    clear hc_w1 hf_w1
    go_wp2_with fail
    go_at_call 124
    refine (HT.out _ ((m.later b1).later bX)).mono ?_
    rintro e w2 ⟨v2, O2, c2, rfl, o2, hb_w2⟩
    have t0 := t0.later hb_w2
    have t1 := t1.later hb_w2
    have s2 := hb_w2.size
    simp only [zA] at o2 s2 zt
    have b2 : Below w.heap.size w w2 := bX
    have sw := b1.size
    have t1' := t1.all (.slice v2.A s.h.ws.length v2.ca) (.int .i64 s.h.n) (.slice v2.U s.h.us.length v2.cu) (.slice v2.V s.h.l.length v2.cv) (.int .i64 s.n) (.slice O2 s.os.length c2) (.int .u64 (s.fa : Nat)) (.int .u64 (s.go : Nat))
    have t0' := t0.over (g := w1.heap.size) (by omega) (.slice v2.A s.h.ws.length v2.ca) (.int .i64 s.h.n) (.slice v2.U s.h.us.length v2.cu) (.slice v2.V s.h.l.length v2.cv) (.int .i64 s.n) (.slice O2 s.os.length c2) (.int .u64 (s.fa : Nat)) (.int .u64 (s.go : Nat))
    have o2' := o2.over8 (g := w1.heap.size) (by omega) (.slice v2.A s.h.ws.length v2.ca) (.int .i64 s.h.n) (.slice v2.U s.h.us.length v2.cu) (.slice v2.V s.h.l.length v2.cv) (.int .i64 s.n) (.slice O2 s.os.length c2) (.int .u64 (s.fa : Nat)) (.int .u64 (s.go : Nat))
    have b2' := below8 (g := w1.heap.size) b2 (by omega) (.slice v2.A s.h.ws.length v2.ca) (.int .i64 s.h.n) (.slice v2.U s.h.us.length v2.cu) (.slice v2.V s.h.l.length v2.cv) (.int .i64 s.n) (.slice O2 s.os.length c2) (.int .u64 (s.fa : Nat)) (.int .u64 (s.go : Nat))
    obtain ⟨x0, x1, x2, x3, x4, x5, x6, x7, xf⟩ := id t1
    obtain ⟨y0, y1, y2, y3, y4, y5, y6, y7, yf⟩ := id t0
    go_wp2_with fail
    generalize hW : ((((((((w2.setCell ⟨w1.heap.size, 0, none⟩ (.slice v2.A s.h.ws.length v2.ca)).setCell ⟨w1.heap.size, 1, none⟩ (.int .i64 s.h.n)).setCell ⟨w1.heap.size, 2, none⟩ (.slice v2.U s.h.us.length v2.cu)).setCell ⟨w1.heap.size, 3, none⟩ (.slice v2.V s.h.l.length v2.cv)).setCell ⟨w1.heap.size, 4, none⟩ (.int .i64 s.n)).setCell ⟨w1.heap.size, 5, none⟩ (.slice O2 s.os.length c2)).setCell ⟨w1.heap.size, 6, none⟩ (.int .u64 (s.fa : Nat))).setCell ⟨w1.heap.size, 7, none⟩ (.int .u64 (s.go : Nat))) = W at *
    have sW : W.heap.size = w2.heap.size := by rw [← hW]; exact size8 _ _ _ _ _ _ _ _ _ _
    clear hW t0 t1 o2 b2 hb_w2 x0 x1 x2 x3 x4 x5 x6 x7 xf y0 y1 y2 y3 y4 y5 y6 y7 yf
    go_at_call 127
    refine (HRL.out _ _ (w1.heap.size + 1) _ _ _ t1' o2' (by omega) (by omega)).mono ?_
    rintro e w3 ⟨O3, c3, rfl, t3, o3, hg3⟩
    have s3 := hg3.size
    have t4 := t0'.grown hg3 (by intro e; injection e with e; omega)
    have b3 := b2'.grown hg3 (by omega) (fun k hk => by injection hk with hk; omega)
    have sw1 := hb_w1.size
    obtain ⟨x0, x1, x2, x3, x4, x5, x6, x7, xf⟩ := id t3
    obtain ⟨y0, y1, y2, y3, y4, y5, y6, y7, yf⟩ := id t4
    go_wp2
    exact bodyPost_ret (res_ss3 rfl rfl (t4.all (.slice v2.A s'.h.ws.length v2.ca) (.int .i64 s'.h.n) (.slice v2.U s'.h.us.length v2.cu) (.slice v2.V s'.h.l.length v2.cv) (.int .i64 s'.n) (.slice O3 s'.os.length c3) (.int .u64 (s'.fa : Nat)) (.int .u64 (s'.go : Nat)))) rfl ⟨v2, O3, c3, rfl, (o3.over8 (g := w.heap.size + 1) (by omega) (.slice v2.A s'.h.ws.length v2.ca) (.int .i64 s'.h.n) (.slice v2.U s'.h.us.length v2.cu) (.slice v2.V s'.h.l.length v2.cv) (.int .i64 s'.n) (.slice O3 s'.os.length c3) (.int .u64 (s'.fa : Nat)) (.int .u64 (s'.go : Nat))).mono (by omega), below8 (g := w.heap.size + 1) b3 (by omega) (.slice v2.A s'.h.ws.length v2.ca) (.int .i64 s'.h.n) (.slice v2.U s'.h.us.length v2.cu) (.slice v2.V s'.h.l.length v2.cv) (.int .i64 s'.n) (.slice O3 s'.os.length c3) (.int .u64 (s'.fa : Nat)) (.int .u64 (s'.go : Nat))⟩
set_option maxHeartbeats 4000000 in
theorem fkeep_any (hz : Sizes w) (m : SM w v O s) (hs : Short s.h) (hnil : v.V = none → v.cv = 0) (q : Int) (hq : -9223372036854775808 ≤ q ∧ q ≤ 9223372036854775807) (s' : Sc) (g y : Int) (hE : KeeE s q s' g y) :
    Calls Tryz.prog 49 #[scV v O co s, .int .i64 q] w fun e w' => FreshSi w s' g y e w' := by
  unfold FreshSi
  rcases hE with ⟨hk, rfl, rfl, rfl⟩ | ⟨hk, h0, hss, rfl, rfl⟩ | ⟨hk, h0, he, hge, rfl⟩
  · have HV := Lib.hid fun (w : World) z m => fview_bad (w := w) (v := v) (O := O) (s := s) co z m hs hk
    clear hk hs
    unfold scV at HV ⊢
    go_enter Tryz.func49, Tryz.ntmps49
    go_wp2_with fail
    go_at_call 123
    refine (HV.out _ (hz.later bX) (m.later bX)).mono ?_
    rintro e w1 ⟨rfl, hb_w1⟩
    obtain ⟨hc_w1, hf_w1⟩ := bcell hb_w1; have hz_w1_w_0 : w.heap.size < w1.heap.size := lY hb_w1.size; have hz_w1_w_1 : w.heap.size + 1 < w1.heap.size := lY hb_w1.size; have hs_w1 := hb_w1.size; (try simp only [zZ] at hs_w1)
    have b1 : Below w.heap.size w w1 := bX
    have t0 := (E8.new (w.alloc (.cells #[.slice v.A s.h.ws.length v.ca, .int .i64 s.h.n, .slice v.U s.h.us.length v.cu, .slice v.V s.h.l.length v.cv, .int .i64 s.n, .slice O s.os.length co, .int .u64 (s.fa : Nat), .int .u64 (s.go : Nat)] 64)) (.slice none 0 0) (.int .i64 0) (.slice none 0 0) (.slice none 0 0) (.int .i64 0) (.slice none 0 0) (.int .u64 0) (.int .u64 0) 64).later hb_w1
    simp only [zA] at t0
    obtain ⟨y0, y1, y2, y3, y4, y5, y6, y7, yf⟩ := id t0
    have ylt := t0.lt
    unfold hv0 sc0 hp0 at *
    simp only at *
    have u0 := (t0.all (.slice none 0 0) (.int .i64 0) (.slice none 0 0) (.slice none 0 0) (.int .i64 0) (.slice none 0 0) (.int .u64 0) (.int .u64 0)).later ((Below.refl _ _).alloc (Nat.le_refl _) (.cells #[.slice none 0 0, .int .i64 0, .slice none 0 0, .slice none 0 0, .int .i64 0, .slice none 0 0, .int .u64 0, .int .u64 0] 184))
    have b2 := (below8 (g := w.heap.size + 1) b1 (by omega) (.slice none 0 0) (.int .i64 0) (.slice none 0 0) (.slice none 0 0) (.int .i64 0) (.slice none 0 0) (.int .u64 0) (.int .u64 0)).alloc (by rw [size8]; omega) (.cells #[.slice none 0 0, .int .i64 0, .slice none 0 0, .slice none 0 0, .int .i64 0, .slice none 0 0, .int .u64 0, .int .u64 0] 184)
    clear hc_w1 hf_w1
    go_wp2
    exact bodyPost_ret (res_ss3 rfl rfl u0) rfl ⟨hv0, none, 0, rfl, OwnsSc.zero _ _, b2⟩
  · have hss := hss.symm
    subst hss
    have HV := Lib.hid fun (w : World) z m => fview_ok (w := w) (v := v) (O := O) (s := s) co z m hk
    have HT := Lib.hid fun (w : World) m => ftwin_any (w := w) (v := v) (O := O) (s := s) co m hk hnil
    clear hk hs
    unfold scV at HV HT ⊢
    have f1 : decide (q < 0) = true := decide_eq_true h0
    go_enter Tryz.func49, Tryz.ntmps49
    go_wp2_with fail
    go_at_call 123
    refine (HV.out _ (hz.later bX) (m.later bX)).mono ?_
    rintro e w1 ⟨rfl, hb_w1⟩
    obtain ⟨hc_w1, hf_w1⟩ := bcell hb_w1; have hz_w1_w_0 : w.heap.size < w1.heap.size := lY hb_w1.size; have hz_w1_w_1 : w.heap.size + 1 < w1.heap.size := lY hb_w1.size; have hs_w1 := hb_w1.size; (try simp only [zZ] at hs_w1)
    have b1 : Below w.heap.size w w1 := bX
    have t0 := (E8.new (w.alloc (.cells #[.slice v.A s.h.ws.length v.ca, .int .i64 s.h.n, .slice v.U s.h.us.length v.cu, .slice v.V s.h.l.length v.cv, .int .i64 s.n, .slice O s.os.length co, .int .u64 (s.fa : Nat), .int .u64 (s.go : Nat)] 64)) (.slice none 0 0) (.int .i64 0) (.slice none 0 0) (.slice none 0 0) (.int .i64 0) (.slice none 0 0) (.int .u64 0) (.int .u64 0) 64).later hb_w1
    simp only [zA] at t0
    have t1 := E8.new w1 (.slice v.A s.h.ws.length v.ca) (.int .i64 s.h.n) (.slice v.U s.h.us.length v.cu) (.slice v.V s.h.l.length v.cv) (.int .i64 s.n) (.slice O s.os.length co) (.int .u64 (s.fa : Nat)) (.int .u64 (s.go : Nat)) 184
    have t0 := t0.later ((Below.refl _ _).alloc (Nat.le_refl _) (.cells #[.slice v.A s.h.ws.length v.ca, .int .i64 s.h.n, .slice v.U s.h.us.length v.cu, .slice v.V s.h.l.length v.cv, .int .i64 s.n, .slice O s.os.length co, .int .u64 (s.fa : Nat), .int .u64 (s.go : Nat)] 184))
    have zt := t0.lt
    clear hc_w1 hf_w1
    go_wp2_with fail
    go_at_call 124
    refine (HT.out _ ((m.later b1).later bX)).mono ?_
    rintro e w2 ⟨v2, O2, c2, rfl, o2, hb_w2⟩
    have t0 := t0.later hb_w2
    have t1 := t1.later hb_w2
    have s2 := hb_w2.size
    simp only [zA] at o2 s2 zt
    have b2 : Below w.heap.size w w2 := bX
    have sw := b1.size
    have t1' := t1.all (.slice v2.A s.h.ws.length v2.ca) (.int .i64 s.h.n) (.slice v2.U s.h.us.length v2.cu) (.slice v2.V s.h.l.length v2.cv) (.int .i64 s.n) (.slice O2 s.os.length c2) (.int .u64 (s.fa : Nat)) (.int .u64 (s.go : Nat))
    have t0' := t0.over (g := w1.heap.size) (by omega) (.slice v2.A s.h.ws.length v2.ca) (.int .i64 s.h.n) (.slice v2.U s.h.us.length v2.cu) (.slice v2.V s.h.l.length v2.cv) (.int .i64 s.n) (.slice O2 s.os.length c2) (.int .u64 (s.fa : Nat)) (.int .u64 (s.go : Nat))
    have o2' := o2.over8 (g := w1.heap.size) (by omega) (.slice v2.A s.h.ws.length v2.ca) (.int .i64 s.h.n) (.slice v2.U s.h.us.length v2.cu) (.slice v2.V s.h.l.length v2.cv) (.int .i64 s.n) (.slice O2 s.os.length c2) (.int .u64 (s.fa : Nat)) (.int .u64 (s.go : Nat))
    have b2' := below8 (g := w1.heap.size) b2 (by omega) (.slice v2.A s.h.ws.length v2.ca) (.int .i64 s.h.n) (.slice v2.U s.h.us.length v2.cu) (.slice v2.V s.h.l.length v2.cv) (.int .i64 s.n) (.slice O2 s.os.length c2) (.int .u64 (s.fa : Nat)) (.int .u64 (s.go : Nat))
    obtain ⟨x0, x1, x2, x3, x4, x5, x6, x7, xf⟩ := id t1
    obtain ⟨y0, y1, y2, y3, y4, y5, y6, y7, yf⟩ := id t0
    go_wp2
    exact bodyPost_ret (res_ss3 rfl rfl (t0'.all (.slice v2.A s.h.ws.length v2.ca) (.int .i64 s.h.n) (.slice v2.U s.h.us.length v2.cu) (.slice v2.V s.h.l.length v2.cv) (.int .i64 s.n) (.slice O2 s.os.length c2) (.int .u64 (s.fa : Nat)) (.int .u64 (s.go : Nat)))) rfl ⟨v2, O2, c2, rfl, (o2'.over8 (g := w.heap.size + 1) (by omega) (.slice v2.A s.h.ws.length v2.ca) (.int .i64 s.h.n) (.slice v2.U s.h.us.length v2.cu) (.slice v2.V s.h.l.length v2.cv) (.int .i64 s.n) (.slice O2 s.os.length c2) (.int .u64 (s.fa : Nat)) (.int .u64 (s.go : Nat))).mono (by omega), below8 (g := w.heap.size + 1) b2' (by omega) (.slice v2.A s.h.ws.length v2.ca) (.int .i64 s.h.n) (.slice v2.U s.h.us.length v2.cu) (.slice v2.V s.h.l.length v2.cv) (.int .i64 s.n) (.slice O2 s.os.length c2) (.int .u64 (s.fa : Nat)) (.int .u64 (s.go : Nat))⟩
  · have HV := Lib.hid fun (w : World) z m => fview_ok (w := w) (v := v) (O := O) (s := s) co z m hk
    have HT := Lib.hid fun (w : World) m => ftwin_any (w := w) (v := v) (O := O) (s := s) co m hk hnil
    have f1 : decide (q < 0) = false := decide_eq_false (by omega)
    have hnn := hk.nn
    have hcl := countTo_le s.os s.n.toNat
    have HPR := Lib.hid fun (w : World) (v : Hv) (O : Option Addr) (co : Nat) m => fpresent_any (w := w) (v := v) (O := O) (s := s) co m hk
    unfold scV at HPR
    obtain ⟨Q, hQ⟩ : ∃ Q, Hid (keeQ s q = Q) := ⟨_, Lib.hid rfl⟩
    rw [hQ.out] at he hge
    have hQm : Hid (max (s.n - (countTo s.os s.n.toNat : Nat) - q) 0 = ((Q : Nat) : Int)) := Lib.hid (by rw [← hQ.out]; unfold keeQ; omega)
    have hQl : Q ≤ 4096 := by rw [← hQ.out]; unfold keeQ; omega
    skip
    have HRL := Lib.hid fun (w : World) (b B : Nat) (v : Hv) (O : Option Addr) (co : Nat) hx m hb hB => frel_any (w := w) (b := b) (B := B) (v := v) (O := O) (co := co) (s := s) hx m hb hB hk Q (by omega) s' he
    rw [← hge] at HRL
    obtain ⟨pr, hpr⟩ : ∃ pr, Hid (s.n - (countTo s.os s.n.toNat : Nat) = pr) := ⟨_, Lib.hid rfl⟩
    rw [hpr.out] at HPR hQm
    have hprb : 0 ≤ pr ∧ pr ≤ 4096 := by have := hpr.out; omega
    have hmx := hQm.out
    clear hk hs he hge
    unfold scV at HV HT ⊢
    go_enter Tryz.func49, Tryz.ntmps49
    go_wp2_with fail
    go_at_call 123
    refine (HV.out _ (hz.later bX) (m.later bX)).mono ?_
    rintro e w1 ⟨rfl, hb_w1⟩
    obtain ⟨hc_w1, hf_w1⟩ := bcell hb_w1; have hz_w1_w_0 : w.heap.size < w1.heap.size := lY hb_w1.size; have hz_w1_w_1 : w.heap.size + 1 < w1.heap.size := lY hb_w1.size; have hs_w1 := hb_w1.size; (try simp only [zZ] at hs_w1)
    have b1 : Below w.heap.size w w1 := bX
    have t0 := (E8.new (w.alloc (.cells #[.slice v.A s.h.ws.length v.ca, .int .i64 s.h.n, .slice v.U s.h.us.length v.cu, .slice v.V s.h.l.length v.cv, .int .i64 s.n, .slice O s.os.length co, .int .u64 (s.fa : Nat), .int .u64 (s.go : Nat)] 64)) (.slice none 0 0) (.int .i64 0) (.slice none 0 0) (.slice none 0 0) (.int .i64 0) (.slice none 0 0) (.int .u64 0) (.int .u64 0) 64).later hb_w1
    simp only [zA] at t0
    have t1 := E8.new w1 (.slice v.A s.h.ws.length v.ca) (.int .i64 s.h.n) (.slice v.U s.h.us.length v.cu) (.slice v.V s.h.l.length v.cv) (.int .i64 s.n) (.slice O s.os.length co) (.int .u64 (s.fa : Nat)) (.int .u64 (s.go : Nat)) 184
    have t0 := t0.later ((Below.refl _ _).alloc (Nat.le_refl _) (.cells #[.slice v.A s.h.ws.length v.ca, .int .i64 s.h.n, .slice v.U s.h.us.length v.cu, .slice v.V s.h.l.length v.cv, .int .i64 s.n, .slice O s.os.length co, .int .u64 (s.fa : Nat), .int .u64 (s.go : Nat)] 184))
    have zt := t0.lt
    clear hc_w1 hf_w1
    go_wp2_with fail
    go_at_call 124
    refine (HT.out _ ((m.later b1).later bX)).mono ?_
    rintro e w2 ⟨v2, O2, c2, rfl, o2, hb_w2⟩
    have t0 := t0.later hb_w2
    have t1 := t1.later hb_w2
    have s2 := hb_w2.size
    simp only [zA] at o2 s2 zt
    have b2 : Below w.heap.size w w2 := bX
    have sw := b1.size
    have t1' := t1.all (.slice v2.A s.h.ws.length v2.ca) (.int .i64 s.h.n) (.slice v2.U s.h.us.length v2.cu) (.slice v2.V s.h.l.length v2.cv) (.int .i64 s.n) (.slice O2 s.os.length c2) (.int .u64 (s.fa : Nat)) (.int .u64 (s.go : Nat))
    have t0' := t0.over (g := w1.heap.size) (by omega) (.slice v2.A s.h.ws.length v2.ca) (.int .i64 s.h.n) (.slice v2.U s.h.us.length v2.cu) (.slice v2.V s.h.l.length v2.cv) (.int .i64 s.n) (.slice O2 s.os.length c2) (.int .u64 (s.fa : Nat)) (.int .u64 (s.go : Nat))
    have o2' := o2.over8 (g := w1.heap.size) (by omega) (.slice v2.A s.h.ws.length v2.ca) (.int .i64 s.h.n) (.slice v2.U s.h.us.length v2.cu) (.slice v2.V s.h.l.length v2.cv) (.int .i64 s.n) (.slice O2 s.os.length c2) (.int .u64 (s.fa : Nat)) (.int .u64 (s.go : Nat))
    have b2' := below8 (g := w1.heap.size) b2 (by omega) (.slice v2.A s.h.ws.length v2.ca) (.int .i64 s.h.n) (.slice v2.U s.h.us.length v2.cu) (.slice v2.V s.h.l.length v2.cv) (.int .i64 s.n) (.slice O2 s.os.length c2) (.int .u64 (s.fa : Nat)) (.int .u64 (s.go : Nat))
    obtain ⟨x0, x1, x2, x3, x4, x5, x6, x7, xf⟩ := id t1
    obtain ⟨y0, y1, y2, y3, y4, y5, y6, y7, yf⟩ := id t0
    go_wp2_with fail
    generalize hW : ((((((((w2.setCell ⟨w1.heap.size, 0, none⟩ (.slice v2.A s.h.ws.length v2.ca)).setCell ⟨w1.heap.size, 1, none⟩ (.int .i64 s.h.n)).setCell ⟨w1.heap.size, 2, none⟩ (.slice v2.U s.h.us.length v2.cu)).setCell ⟨w1.heap.size, 3, none⟩ (.slice v2.V s.h.l.length v2.cv)).setCell ⟨w1.heap.size, 4, none⟩ (.int .i64 s.n)).setCell ⟨w1.heap.size, 5, none⟩ (.slice O2 s.os.length c2)).setCell ⟨w1.heap.size, 6, none⟩ (.int .u64 (s.fa : Nat))).setCell ⟨w1.heap.size, 7, none⟩ (.int .u64 (s.go : Nat))) = W at *
    have sW : W.heap.size = w2.heap.size := by rw [← hW]; exact size8 _ _ _ _ _ _ _ _ _ _
    clear hW t0 t1 o2 b2 hb_w2 x0 x1 x2 x3 x4 x5 x6 x7 xf y0 y1 y2 y3 y4 y5 y6 y7 yf
    go_at_call 129
    refine (HPR.out _ _ _ _ o2'.sm).mono ?_
    rintro e wP ⟨rfl, hb_wP⟩
    have t1' := t1'.later hb_wP
    have t0' := t0'.later hb_wP
    have o2' := o2'.later hb_wP
    have b2' := b2'.trans (hb_wP.mono b2'.size)
    have sP := hb_wP.size
    clear hb_wP
    clear hmx
    go_wp2_with fail
    · obtain rfl : Q = 0 := by have := hQm.out; omega
      have z0 : ((0 : Nat) : Int) = 0 := rfl
      rw [z0] at HRL
      go_at_call 127
      refine (HRL.out _ _ (w1.heap.size + 1) _ _ _ t1' o2' (by omega) (by omega)).mono ?_
      rintro e w3 ⟨O3, c3, rfl, t3, o3, hg3⟩
      have s3 := hg3.size
      have t4 := t0'.grown hg3 (by intro e; injection e with e; omega)
      have b3 := b2'.grown hg3 (by omega) (fun k hk => by injection hk with hk; omega)
      have sw1 := hb_w1.size
      obtain ⟨x0, x1, x2, x3, x4, x5, x6, x7, xf⟩ := id t3
      obtain ⟨y0, y1, y2, y3, y4, y5, y6, y7, yf⟩ := id t4
      go_wp2
      exact bodyPost_ret (res_ss3 rfl rfl (t4.all (.slice v2.A s'.h.ws.length v2.ca) (.int .i64 s'.h.n) (.slice v2.U s'.h.us.length v2.cu) (.slice v2.V s'.h.l.length v2.cv) (.int .i64 s'.n) (.slice O3 s'.os.length c3) (.int .u64 (s'.fa : Nat)) (.int .u64 (s'.go : Nat)))) rfl ⟨v2, O3, c3, rfl, (o3.over8 (g := w.heap.size + 1) (by omega) (.slice v2.A s'.h.ws.length v2.ca) (.int .i64 s'.h.n) (.slice v2.U s'.h.us.length v2.cu) (.slice v2.V s'.h.l.length v2.cv) (.int .i64 s'.n) (.slice O3 s'.os.length c3) (.int .u64 (s'.fa : Nat)) (.int .u64 (s'.go : Nat))).mono (by omega), below8 (g := w.heap.size + 1) b3 (by omega) (.slice v2.A s'.h.ws.length v2.ca) (.int .i64 s'.h.n) (.slice v2.U s'.h.us.length v2.cu) (.slice v2.V s'.h.l.length v2.cv) (.int .i64 s'.n) (.slice O3 s'.os.length c3) (.int .u64 (s'.fa : Nat)) (.int .u64 (s'.go : Nat))⟩
    · have eq : pr - q = (Q : Int) := by have := hQm.out; omega
      rw [← eq] at HRL
      go_at_call 127
      refine (HRL.out _ _ (w1.heap.size + 1) _ _ _ t1' o2' (by omega) (by omega)).mono ?_
      rintro e w3 ⟨O3, c3, rfl, t3, o3, hg3⟩
      have s3 := hg3.size
      have t4 := t0'.grown hg3 (by intro e; injection e with e; omega)
      have b3 := b2'.grown hg3 (by omega) (fun k hk => by injection hk with hk; omega)
      have sw1 := hb_w1.size
      obtain ⟨x0, x1, x2, x3, x4, x5, x6, x7, xf⟩ := id t3
      obtain ⟨y0, y1, y2, y3, y4, y5, y6, y7, yf⟩ := id t4
      go_wp2
      exact bodyPost_ret (res_ss3 rfl rfl (t4.all (.slice v2.A s'.h.ws.length v2.ca) (.int .i64 s'.h.n) (.slice v2.U s'.h.us.length v2.cu) (.slice v2.V s'.h.l.length v2.cv) (.int .i64 s'.n) (.slice O3 s'.os.length c3) (.int .u64 (s'.fa : Nat)) (.int .u64 (s'.go : Nat)))) rfl ⟨v2, O3, c3, rfl, (o3.over8 (g := w.heap.size + 1) (by omega) (.slice v2.A s'.h.ws.length v2.ca) (.int .i64 s'.h.n) (.slice v2.U s'.h.us.length v2.cu) (.slice v2.V s'.h.l.length v2.cv) (.int .i64 s'.n) (.slice O3 s'.os.length c3) (.int .u64 (s'.fa : Nat)) (.int .u64 (s'.go : Nat))).mono (by omega), below8 (g := w.heap.size + 1) b3 (by omega) (.slice v2.A s'.h.ws.length v2.ca) (.int .i64 s'.h.n) (.slice v2.U s'.h.us.length v2.cu) (.slice v2.V s'.h.l.length v2.cv) (.int .i64 s'.n) (.slice O3 s'.os.length c3) (.int .u64 (s'.fa : Nat)) (.int .u64 (s'.go : Nat))⟩
end
def FreshSw (w : World) (s' : Sc) (t : List Nat) (y : Int) (e : Ending) (w' : World) : Prop := ∃ v O c A ca, e = .returned (.tuple #[scV v O c s', .slice A t.length ca, .int .i64 y]) ∧ OwnsSc w' w.heap.size v O s' ∧ OwnsN w' w.heap.size A t.length ca t ∧ Below w.heap.size w w'
def ClE (s : Sc) (f : Int) (s' : Sc) (t : List Nat) (y : Int) : Prop := (¬ OkS s ∧ s' = sc0 ∧ t = [] ∧ y = 2) ∨ (OkS s ∧ (∃ h', ClnE s.h f h' t y) ∧ y ≠ 0 ∧ s' = s ∧ t = []) ∨ (OkS s ∧ ∃ h', ClnE s.h f h' t 0 ∧ s' = clnSc s h' ∧ y = 0)
theorem ClnE.refused {h : Hp} {f : Int} {h' : Hp} {t : List Nat} {y : Int} (hE : ClnE h f h' t y) (hk : OkH h) (hy : y ≠ 0) : h' = h ∧ t = [] := by
  rcases hE with ⟨h1, _⟩ | ⟨_, _, e, e2, _⟩ | ⟨_, _, _, _, e, e2, _⟩ | ⟨_, _, _, _, _, _, e⟩
  · exact absurd hk h1
  · exact ⟨e, e2⟩
  · exact ⟨e, e2⟩
  · exact absurd e hy
theorem ClE.ex (s : Sc) (f : Int) : ∃ s' t y, ClE s f s' t y := by
  by_cases hk : OkS s
  · obtain ⟨h', t, y, hE⟩ := ClnE.ex s.h f
    by_cases hy : y = 0
    · subst hy
      exact ⟨_, _, _, .inr (.inr ⟨hk, h', hE, rfl, rfl⟩)⟩
    · exact ⟨_, _, _, .inr (.inl ⟨hk, ⟨h', hE⟩, hy, rfl, (hE.refused hk.h hy).2⟩)⟩
  · exact ⟨_, _, _, .inl ⟨hk, rfl, rfl, rfl⟩⟩
def TheE (s : Sc) (a b : Int) (y : Int) : Prop := (¬ OkS s ∧ a = 0 ∧ b = 0 ∧ y = 2) ∨ (OkS s ∧ a = s.n - (countTo s.os s.n.toNat : Nat) ∧ b = s.n - (countTo s.os s.n.toNat : Nat) - (countTo s.h.us s.n.toNat : Nat) ∧ y = 0)
theorem TheE.ex (s : Sc) : ∃ a b y, TheE s a b y := by
  by_cases hk : OkS s
  · exact ⟨_, _, _, .inr ⟨hk, rfl, rfl, rfl⟩⟩
  · exact ⟨_, _, _, .inl ⟨hk, rfl, rfl, rfl⟩⟩
def makS (h : Hp) : Sc := ⟨h, h.n, wordsN h.n, 0, 0⟩
theorem makS_ok {h : Hp} (hk : OkH h) : OkS (makS h) := okS_of hk (right_wordsN h.n hk.framed.pages.1 hk.framed.pages.2.1) rfl fun i hi ho => by
  have ho : tb (wordsN h.n) i = true := ho
  unfold wordsN at ho
  rw [tb_zeros] at ho
  cases ho
def MkS (h : Hp) (s' : Sc) (y : Int) : Prop := (¬ OkH h ∧ s' = sc0 ∧ y = 2) ∨ (OkH h ∧ s' = makS h ∧ y = 0)
theorem MkS.ex (h : Hp) : ∃ s' y, MkS h s' y := by
  by_cases hk : OkH h
  · exact ⟨_, _, .inr ⟨hk, rfl, rfl⟩⟩
  · exact ⟨_, _, .inl ⟨hk, rfl, rfl⟩⟩
section
variable {w : World} {v : Hv} {O : Option Addr} {s : Sc} (co : Nat)
theorem over8N {w : World} {B g n cap : Nat} {A : Option Addr} {t : List Nat} (o : OwnsN w B A n cap t) (hg : g < B) (u0 u1 u2 u3 u4 u5 u6 u7 : Value) : OwnsN ((((((((w.setCell ⟨g, 0, none⟩ u0).setCell ⟨g, 1, none⟩ u1).setCell ⟨g, 2, none⟩ u2).setCell ⟨g, 3, none⟩ u3).setCell ⟨g, 4, none⟩ u4).setCell ⟨g, 5, none⟩ u5).setCell ⟨g, 6, none⟩ u6).setCell ⟨g, 7, none⟩ u7) B A n cap t :=
  ((((((((o.far2 (p := ⟨g, 0, none⟩) hg u0).far2 (p := ⟨g, 1, none⟩) hg u1).far2 (p := ⟨g, 2, none⟩) hg u2).far2 (p := ⟨g, 3, none⟩) hg u3).far2 (p := ⟨g, 4, none⟩) hg u4).far2 (p := ⟨g, 5, none⟩) hg u5).far2 (p := ⟨g, 6, none⟩) hg u6).far2 (p := ⟨g, 7, none⟩) hg u7)
set_option maxHeartbeats 8000000 in
theorem fclean_any (hz : Sizes w) (m : SM w v O s) (hs : Short s.h) (hnil : v.V = none → v.cv = 0) (f : Int) (s' : Sc) (t : List Nat) (y : Int) (hE : ClE s f s' t y) :
    Calls Tryz.prog 45 #[scV v O co s, .int .i64 f] w fun e w' => FreshSw w s' t y e w' := by
  unfold FreshSw
  rcases hE with ⟨hk, rfl, rfl, rfl⟩ | ⟨hk, ⟨h', hN⟩, hy, hss, rfl⟩ | ⟨hk, h', hN, he, rfl⟩
  · have HV := Lib.hid fun (w : World) z m => fview_bad (w := w) (v := v) (O := O) (s := s) co z m hs hk
    clear hk hs
    unfold scV at HV ⊢
    go_enter Tryz.func45, Tryz.ntmps45
    go_wp2_with fail
    go_at_call 123
    refine (HV.out _ (hz.later bX) (m.later bX)).mono ?_
    rintro e w1 ⟨rfl, hb_w1⟩
    obtain ⟨hc_w1, hf_w1⟩ := bcell hb_w1; have hz_w1_w_0 : w.heap.size < w1.heap.size := lY hb_w1.size; have hz_w1_w_1 : w.heap.size + 1 < w1.heap.size := lY hb_w1.size; have hs_w1 := hb_w1.size; (try simp only [zZ] at hs_w1)
    have b1 : Below w.heap.size w w1 := bX
    have t0 := (E8.new (w.alloc (.cells #[.slice v.A s.h.ws.length v.ca, .int .i64 s.h.n, .slice v.U s.h.us.length v.cu, .slice v.V s.h.l.length v.cv, .int .i64 s.n, .slice O s.os.length co, .int .u64 (s.fa : Nat), .int .u64 (s.go : Nat)] 64)) (.slice none 0 0) (.int .i64 0) (.slice none 0 0) (.slice none 0 0) (.int .i64 0) (.slice none 0 0) (.int .u64 0) (.int .u64 0) 64).later hb_w1
    simp only [zA] at t0
    obtain ⟨y0, y1, y2, y3, y4, y5, y6, y7, yf⟩ := id t0
    have ylt := t0.lt
    unfold hv0 sc0 hp0 at *
    simp only at *
    have u0 := (t0.all (.slice none 0 0) (.int .i64 0) (.slice none 0 0) (.slice none 0 0) (.int .i64 0) (.slice none 0 0) (.int .u64 0) (.int .u64 0)).later ((Below.refl _ _).alloc (Nat.le_refl _) (.cells #[.slice none 0 0, .int .i64 0, .slice none 0 0, .slice none 0 0, .int .i64 0, .slice none 0 0, .int .u64 0, .int .u64 0] 184))
    have b2 := (below8 (g := w.heap.size + 1) b1 (by omega) (.slice none 0 0) (.int .i64 0) (.slice none 0 0) (.slice none 0 0) (.int .i64 0) (.slice none 0 0) (.int .u64 0) (.int .u64 0)).alloc (by rw [size8]; omega) (.cells #[.slice none 0 0, .int .i64 0, .slice none 0 0, .slice none 0 0, .int .i64 0, .slice none 0 0, .int .u64 0, .int .u64 0] 184)
    clear hc_w1 hf_w1
    go_wp2
    exact bodyPost_ret (res_ss3 rfl rfl u0) rfl ⟨hv0, none, 0, none, 0, rfl, OwnsSc.zero _ _, OwnsN.nil _ _, b2⟩
  · have hss := hss.symm
    subst hss
    have hh := (hN.refused hk.h hy).1
    subst hh
    have fy : (y != (0 : Int)) = true := by simpa using hy
    have HNW := Lib.hid fun (w : World) (v : Hv) hz m hn => zcleanH_any (w := w) (v := v) (h := s.h) hz m hk.h.lens.1 hk.h.lens.2 hn f s.h [] y hN
    unfold FreshHw hpV hpv at HNW
    have HV := Lib.hid fun (w : World) z m => fview_ok (w := w) (v := v) (O := O) (s := s) co z m hk
    have HT := Lib.hid fun (w : World) m => ftwin_any (w := w) (v := v) (O := O) (s := s) co m hk hnil
    clear hk hs hN hy
    unfold scV at HV HT ⊢
    go_enter Tryz.func45, Tryz.ntmps45
    go_wp2_with fail
    go_at_call 123
    refine (HV.out _ (hz.later bX) (m.later bX)).mono ?_
    rintro e w1 ⟨rfl, hb_w1⟩
    obtain ⟨hc_w1, hf_w1⟩ := bcell hb_w1; have hz_w1_w_0 : w.heap.size < w1.heap.size := lY hb_w1.size; have hz_w1_w_1 : w.heap.size + 1 < w1.heap.size := lY hb_w1.size; have hs_w1 := hb_w1.size; (try simp only [zZ] at hs_w1)
    have b1 : Below w.heap.size w w1 := bX
    have t0 := (E8.new (w.alloc (.cells #[.slice v.A s.h.ws.length v.ca, .int .i64 s.h.n, .slice v.U s.h.us.length v.cu, .slice v.V s.h.l.length v.cv, .int .i64 s.n, .slice O s.os.length co, .int .u64 (s.fa : Nat), .int .u64 (s.go : Nat)] 64)) (.slice none 0 0) (.int .i64 0) (.slice none 0 0) (.slice none 0 0) (.int .i64 0) (.slice none 0 0) (.int .u64 0) (.int .u64 0) 64).later hb_w1
    simp only [zA] at t0
    have t1 := E8.new w1 (.slice v.A s.h.ws.length v.ca) (.int .i64 s.h.n) (.slice v.U s.h.us.length v.cu) (.slice v.V s.h.l.length v.cv) (.int .i64 s.n) (.slice O s.os.length co) (.int .u64 (s.fa : Nat)) (.int .u64 (s.go : Nat)) 184
    have t0 := t0.later ((Below.refl _ _).alloc (Nat.le_refl _) (.cells #[.slice v.A s.h.ws.length v.ca, .int .i64 s.h.n, .slice v.U s.h.us.length v.cu, .slice v.V s.h.l.length v.cv, .int .i64 s.n, .slice O s.os.length co, .int .u64 (s.fa : Nat), .int .u64 (s.go : Nat)] 184))
    have zt := t0.lt
    clear hc_w1 hf_w1
    go_wp2_with fail
    go_at_call 124
    refine (HT.out _ ((m.later b1).later bX)).mono ?_
    rintro e w2 ⟨v2, O2, c2, rfl, o2, hb_w2⟩
    have t0 := t0.later hb_w2
    have t1 := t1.later hb_w2
    have s2 := hb_w2.size
    simp only [zA] at o2 s2 zt
    have b2 : Below w.heap.size w w2 := bX
    have sw := b1.size
    have t1' := t1.all (.slice v2.A s.h.ws.length v2.ca) (.int .i64 s.h.n) (.slice v2.U s.h.us.length v2.cu) (.slice v2.V s.h.l.length v2.cv) (.int .i64 s.n) (.slice O2 s.os.length c2) (.int .u64 (s.fa : Nat)) (.int .u64 (s.go : Nat))
    have t0' := t0.over (g := w1.heap.size) (by omega) (.slice v2.A s.h.ws.length v2.ca) (.int .i64 s.h.n) (.slice v2.U s.h.us.length v2.cu) (.slice v2.V s.h.l.length v2.cv) (.int .i64 s.n) (.slice O2 s.os.length c2) (.int .u64 (s.fa : Nat)) (.int .u64 (s.go : Nat))
    have o2' := o2.over8 (g := w1.heap.size) (by omega) (.slice v2.A s.h.ws.length v2.ca) (.int .i64 s.h.n) (.slice v2.U s.h.us.length v2.cu) (.slice v2.V s.h.l.length v2.cv) (.int .i64 s.n) (.slice O2 s.os.length c2) (.int .u64 (s.fa : Nat)) (.int .u64 (s.go : Nat))
    have b2' := below8 (g := w1.heap.size) b2 (by omega) (.slice v2.A s.h.ws.length v2.ca) (.int .i64 s.h.n) (.slice v2.U s.h.us.length v2.cu) (.slice v2.V s.h.l.length v2.cv) (.int .i64 s.n) (.slice O2 s.os.length c2) (.int .u64 (s.fa : Nat)) (.int .u64 (s.go : Nat))
    obtain ⟨x0, x1, x2, x3, x4, x5, x6, x7, xf⟩ := id t1
    obtain ⟨y0, y1, y2, y3, y4, y5, y6, y7, yf⟩ := id t0
    go_wp2_with fail
    generalize hW : ((((((((w2.setCell ⟨w1.heap.size, 0, none⟩ (.slice v2.A s.h.ws.length v2.ca)).setCell ⟨w1.heap.size, 1, none⟩ (.int .i64 s.h.n)).setCell ⟨w1.heap.size, 2, none⟩ (.slice v2.U s.h.us.length v2.cu)).setCell ⟨w1.heap.size, 3, none⟩ (.slice v2.V s.h.l.length v2.cv)).setCell ⟨w1.heap.size, 4, none⟩ (.int .i64 s.n)).setCell ⟨w1.heap.size, 5, none⟩ (.slice O2 s.os.length c2)).setCell ⟨w1.heap.size, 6, none⟩ (.int .u64 (s.fa : Nat))).setCell ⟨w1.heap.size, 7, none⟩ (.int .u64 (s.go : Nat))) = W at *
    have sW : W.heap.size = w2.heap.size := by rw [← hW]; exact size8 _ _ _ _ _ _ _ _ _ _
    clear hW t0 t1 o2 b2 hb_w2 x0 x1 x2 x3 x4 x5 x6 x7 xf y0 y1 y2 y3 y4 y5 y6 y7 yf
    obtain ⟨x0, x1, x2, x3, x4, x5, x6, x7, xf⟩ := id t1'
    have oN := o2'.h.nil
    have oM := o2'.h.hm
    go_wp2_with fail
    go_at_call 40
    refine (HNW.out _ _ (hz.later b2') oM oN).mono ?_
    rintro e w3 ⟨v3, A3, c3, rfl, o3, r3, hb_w3⟩
    have s3 := hb_w3.size
    clear oN oM x0 x1 x2 x3 x4 x5 x6 x7 xf
    have t0' := (t0'.later hb_w3).later ((Below.refl _ _).alloc (Nat.le_refl _) (.cells #[.slice v3.A s.h.ws.length v3.ca, .int .i64 s.h.n, .slice v3.U s.h.us.length v3.cu, .slice v3.V s.h.l.length v3.cv] 31))
    have t1' := (t1'.later hb_w3).later ((Below.refl _ _).alloc (Nat.le_refl _) (.cells #[.slice v3.A s.h.ws.length v3.ca, .int .i64 s.h.n, .slice v3.U s.h.us.length v3.cu, .slice v3.V s.h.l.length v3.cv] 31))
    have o2' := (o2'.later hb_w3).later ((Below.refl _ _).alloc (Nat.le_refl _) (.cells #[.slice v3.A s.h.ws.length v3.ca, .int .i64 s.h.n, .slice v3.U s.h.us.length v3.cu, .slice v3.V s.h.l.length v3.cv] 31))
    have b2' := (b2'.trans (hb_w3.mono b2'.size)).alloc (by have := b2'.size; omega) (.cells #[.slice v3.A s.h.ws.length v3.ca, .int .i64 s.h.n, .slice v3.U s.h.us.length v3.cu, .slice v3.V s.h.l.length v3.cv] 31)
    have q4 := B4.new w3 (.slice v3.A s.h.ws.length v3.ca) (.int .i64 s.h.n) (.slice v3.U s.h.us.length v3.cu) (.slice v3.V s.h.l.length v3.cv) 31
    obtain ⟨x0, x1, x2, x3, x4, x5, x6, x7, xf⟩ := id t1'
    obtain ⟨y0, y1, y2, y3, y4, y5, y6, y7, yf⟩ := id t0'
    go_wp2
    exact bodyPost_ret (res_ss3 rfl rfl (t0'.all (.slice v2.A s.h.ws.length v2.ca) (.int .i64 s.h.n) (.slice v2.U s.h.us.length v2.cu) (.slice v2.V s.h.l.length v2.cv) (.int .i64 s.n) (.slice O2 s.os.length c2) (.int .u64 (s.fa : Nat)) (.int .u64 (s.go : Nat)))) rfl ⟨v2, O2, c2, none, 0, rfl, (o2'.over8 (g := w.heap.size + 1) (by omega) (.slice v2.A s.h.ws.length v2.ca) (.int .i64 s.h.n) (.slice v2.U s.h.us.length v2.cu) (.slice v2.V s.h.l.length v2.cv) (.int .i64 s.n) (.slice O2 s.os.length c2) (.int .u64 (s.fa : Nat)) (.int .u64 (s.go : Nat))).mono (by omega), OwnsN.nil _ _, below8 (g := w.heap.size + 1) b2' (by omega) (.slice v2.A s.h.ws.length v2.ca) (.int .i64 s.h.n) (.slice v2.U s.h.us.length v2.cu) (.slice v2.V s.h.l.length v2.cv) (.int .i64 s.n) (.slice O2 s.os.length c2) (.int .u64 (s.fa : Nat)) (.int .u64 (s.go : Nat))⟩
  · have HNW := Lib.hid fun (w : World) (v : Hv) hz m hn => zcleanH_any (w := w) (v := v) (h := s.h) hz m hk.h.lens.1 hk.h.lens.2 hn f h' t 0 hN
    unfold FreshHw hpV hpv at HNW
    have HV := Lib.hid fun (w : World) z m => fview_ok (w := w) (v := v) (O := O) (s := s) co z m hk
    have HT := Lib.hid fun (w : World) m => ftwin_any (w := w) (v := v) (O := O) (s := s) co m hk hnil
    clear hk hs hN
    subst he
    unfold scV at HV HT ⊢
    go_enter Tryz.func45, Tryz.ntmps45
    go_wp2_with fail
    go_at_call 123
    refine (HV.out _ (hz.later bX) (m.later bX)).mono ?_
    rintro e w1 ⟨rfl, hb_w1⟩
    obtain ⟨hc_w1, hf_w1⟩ := bcell hb_w1; have hz_w1_w_0 : w.heap.size < w1.heap.size := lY hb_w1.size; have hz_w1_w_1 : w.heap.size + 1 < w1.heap.size := lY hb_w1.size; have hs_w1 := hb_w1.size; (try simp only [zZ] at hs_w1)
    have b1 : Below w.heap.size w w1 := bX
    have t0 := (E8.new (w.alloc (.cells #[.slice v.A s.h.ws.length v.ca, .int .i64 s.h.n, .slice v.U s.h.us.length v.cu, .slice v.V s.h.l.length v.cv, .int .i64 s.n, .slice O s.os.length co, .int .u64 (s.fa : Nat), .int .u64 (s.go : Nat)] 64)) (.slice none 0 0) (.int .i64 0) (.slice none 0 0) (.slice none 0 0) (.int .i64 0) (.slice none 0 0) (.int .u64 0) (.int .u64 0) 64).later hb_w1
    simp only [zA] at t0
    have t1 := E8.new w1 (.slice v.A s.h.ws.length v.ca) (.int .i64 s.h.n) (.slice v.U s.h.us.length v.cu) (.slice v.V s.h.l.length v.cv) (.int .i64 s.n) (.slice O s.os.length co) (.int .u64 (s.fa : Nat)) (.int .u64 (s.go : Nat)) 184
    have t0 := t0.later ((Below.refl _ _).alloc (Nat.le_refl _) (.cells #[.slice v.A s.h.ws.length v.ca, .int .i64 s.h.n, .slice v.U s.h.us.length v.cu, .slice v.V s.h.l.length v.cv, .int .i64 s.n, .slice O s.os.length co, .int .u64 (s.fa : Nat), .int .u64 (s.go : Nat)] 184))
    have zt := t0.lt
    clear hc_w1 hf_w1
    go_wp2_with fail
    go_at_call 124
    refine (HT.out _ ((m.later b1).later bX)).mono ?_
    rintro e w2 ⟨v2, O2, c2, rfl, o2, hb_w2⟩
    have t0 := t0.later hb_w2
    have t1 := t1.later hb_w2
    have s2 := hb_w2.size
    simp only [zA] at o2 s2 zt
    have b2 : Below w.heap.size w w2 := bX
    have sw := b1.size
    have t1' := t1.all (.slice v2.A s.h.ws.length v2.ca) (.int .i64 s.h.n) (.slice v2.U s.h.us.length v2.cu) (.slice v2.V s.h.l.length v2.cv) (.int .i64 s.n) (.slice O2 s.os.length c2) (.int .u64 (s.fa : Nat)) (.int .u64 (s.go : Nat))
    have t0' := t0.over (g := w1.heap.size) (by omega) (.slice v2.A s.h.ws.length v2.ca) (.int .i64 s.h.n) (.slice v2.U s.h.us.length v2.cu) (.slice v2.V s.h.l.length v2.cv) (.int .i64 s.n) (.slice O2 s.os.length c2) (.int .u64 (s.fa : Nat)) (.int .u64 (s.go : Nat))
    have o2' := o2.over8 (g := w1.heap.size) (by omega) (.slice v2.A s.h.ws.length v2.ca) (.int .i64 s.h.n) (.slice v2.U s.h.us.length v2.cu) (.slice v2.V s.h.l.length v2.cv) (.int .i64 s.n) (.slice O2 s.os.length c2) (.int .u64 (s.fa : Nat)) (.int .u64 (s.go : Nat))
    have b2' := below8 (g := w1.heap.size) b2 (by omega) (.slice v2.A s.h.ws.length v2.ca) (.int .i64 s.h.n) (.slice v2.U s.h.us.length v2.cu) (.slice v2.V s.h.l.length v2.cv) (.int .i64 s.n) (.slice O2 s.os.length c2) (.int .u64 (s.fa : Nat)) (.int .u64 (s.go : Nat))
    obtain ⟨x0, x1, x2, x3, x4, x5, x6, x7, xf⟩ := id t1
    obtain ⟨y0, y1, y2, y3, y4, y5, y6, y7, yf⟩ := id t0
    go_wp2_with fail
    generalize hW : ((((((((w2.setCell ⟨w1.heap.size, 0, none⟩ (.slice v2.A s.h.ws.length v2.ca)).setCell ⟨w1.heap.size, 1, none⟩ (.int .i64 s.h.n)).setCell ⟨w1.heap.size, 2, none⟩ (.slice v2.U s.h.us.length v2.cu)).setCell ⟨w1.heap.size, 3, none⟩ (.slice v2.V s.h.l.length v2.cv)).setCell ⟨w1.heap.size, 4, none⟩ (.int .i64 s.n)).setCell ⟨w1.heap.size, 5, none⟩ (.slice O2 s.os.length c2)).setCell ⟨w1.heap.size, 6, none⟩ (.int .u64 (s.fa : Nat))).setCell ⟨w1.heap.size, 7, none⟩ (.int .u64 (s.go : Nat))) = W at *
    have sW : W.heap.size = w2.heap.size := by rw [← hW]; exact size8 _ _ _ _ _ _ _ _ _ _
    clear hW t0 t1 o2 b2 hb_w2 x0 x1 x2 x3 x4 x5 x6 x7 xf y0 y1 y2 y3 y4 y5 y6 y7 yf
    obtain ⟨x0, x1, x2, x3, x4, x5, x6, x7, xf⟩ := id t1'
    have oN := o2'.h.nil
    have oM := o2'.h.hm
    go_wp2_with fail
    go_at_call 40
    refine (HNW.out _ _ (hz.later b2') oM oN).mono ?_
    rintro e w3 ⟨v3, A3, c3, rfl, o3, r3, hb_w3⟩
    have s3 := hb_w3.size
    clear oN oM x0 x1 x2 x3 x4 x5 x6 x7 xf
    have t0' := (t0'.later hb_w3).later ((Below.refl _ _).alloc (Nat.le_refl _) (.cells #[.slice v3.A h'.ws.length v3.ca, .int .i64 h'.n, .slice v3.U h'.us.length v3.cu, .slice v3.V h'.l.length v3.cv] 31))
    have t1' := (t1'.later hb_w3).later ((Below.refl _ _).alloc (Nat.le_refl _) (.cells #[.slice v3.A h'.ws.length v3.ca, .int .i64 h'.n, .slice v3.U h'.us.length v3.cu, .slice v3.V h'.l.length v3.cv] 31))
    have o2' := (o2'.later hb_w3).later ((Below.refl _ _).alloc (Nat.le_refl _) (.cells #[.slice v3.A h'.ws.length v3.ca, .int .i64 h'.n, .slice v3.U h'.us.length v3.cu, .slice v3.V h'.l.length v3.cv] 31))
    have b2' := (b2'.trans (hb_w3.mono b2'.size)).alloc (by have := b2'.size; omega) (.cells #[.slice v3.A h'.ws.length v3.ca, .int .i64 h'.n, .slice v3.U h'.us.length v3.cu, .slice v3.V h'.l.length v3.cv] 31)
    have q4 := B4.new w3 (.slice v3.A h'.ws.length v3.ca) (.int .i64 h'.n) (.slice v3.U h'.us.length v3.cu) (.slice v3.V h'.l.length v3.cv) 31
    obtain ⟨x0, x1, x2, x3, x4, x5, x6, x7, xf⟩ := id t1'
    obtain ⟨q0, q1, q2, q3, _, _, _, _⟩ := id q4
    have zq := q4.lt
    have oo := o2'.o
    have o4 := o3.later ((Below.refl _ _).alloc (Nat.le_refl _) (.cells #[.slice v3.A h'.ws.length v3.ca, .int .i64 h'.n, .slice v3.U h'.us.length v3.cu, .slice v3.V h'.l.length v3.cv] 31))
    have r4 := r3.later ((Below.refl _ _).alloc (Nat.le_refl _) (.cells #[.slice v3.A h'.ws.length v3.ca, .int .i64 h'.n, .slice v3.U h'.us.length v3.cu, .slice v3.V h'.l.length v3.cv] 31))
    have t2 := (((t1'.set0 (.slice v3.A h'.ws.length v3.ca)).set1 (.int .i64 h'.n)).set2 (.slice v3.U h'.us.length v3.cu)).set3 (.slice v3.V h'.l.length v3.cv)
    have t0' := t0'.far (p := ⟨w1.heap.size, 0, none⟩) (by show w1.heap.size ≠ w.heap.size + 1; omega) (.slice v3.A h'.ws.length v3.ca)
    have t0' := t0'.far (p := ⟨w1.heap.size, 1, none⟩) (by show w1.heap.size ≠ w.heap.size + 1; omega) (.int .i64 h'.n)
    have t0' := t0'.far (p := ⟨w1.heap.size, 2, none⟩) (by show w1.heap.size ≠ w.heap.size + 1; omega) (.slice v3.U h'.us.length v3.cu)
    have t0' := t0'.far (p := ⟨w1.heap.size, 3, none⟩) (by show w1.heap.size ≠ w.heap.size + 1; omega) (.slice v3.V h'.l.length v3.cv)
    have o4 := o4.far (p := ⟨w1.heap.size, 0, none⟩) (by show w1.heap.size < W.heap.size; omega) (.slice v3.A h'.ws.length v3.ca)
    have o4 := o4.far (p := ⟨w1.heap.size, 1, none⟩) (by show w1.heap.size < W.heap.size; omega) (.int .i64 h'.n)
    have o4 := o4.far (p := ⟨w1.heap.size, 2, none⟩) (by show w1.heap.size < W.heap.size; omega) (.slice v3.U h'.us.length v3.cu)
    have o4 := o4.far (p := ⟨w1.heap.size, 3, none⟩) (by show w1.heap.size < W.heap.size; omega) (.slice v3.V h'.l.length v3.cv)
    have r4 := r4.far2 (p := ⟨w1.heap.size, 0, none⟩) (by show w1.heap.size < W.heap.size; omega) (.slice v3.A h'.ws.length v3.ca)
    have r4 := r4.far2 (p := ⟨w1.heap.size, 1, none⟩) (by show w1.heap.size < W.heap.size; omega) (.int .i64 h'.n)
    have r4 := r4.far2 (p := ⟨w1.heap.size, 2, none⟩) (by show w1.heap.size < W.heap.size; omega) (.slice v3.U h'.us.length v3.cu)
    have r4 := r4.far2 (p := ⟨w1.heap.size, 3, none⟩) (by show w1.heap.size < W.heap.size; omega) (.slice v3.V h'.l.length v3.cv)
    have oo := oo.far (p := ⟨w1.heap.size, 0, none⟩) (.inl (by show w1.heap.size < w1.heap.size + 1; omega)) (.slice v3.A h'.ws.length v3.ca)
    have oo := oo.far (p := ⟨w1.heap.size, 1, none⟩) (.inl (by show w1.heap.size < w1.heap.size + 1; omega)) (.int .i64 h'.n)
    have oo := oo.far (p := ⟨w1.heap.size, 2, none⟩) (.inl (by show w1.heap.size < w1.heap.size + 1; omega)) (.slice v3.U h'.us.length v3.cu)
    have oo := oo.far (p := ⟨w1.heap.size, 3, none⟩) (.inl (by show w1.heap.size < w1.heap.size + 1; omega)) (.slice v3.V h'.l.length v3.cv)
    have b2' := b2'.setCell (p := ⟨w1.heap.size, 0, none⟩) (by show w.heap.size ≤ w1.heap.size; omega) (.slice v3.A h'.ws.length v3.ca)
    have b2' := b2'.setCell (p := ⟨w1.heap.size, 1, none⟩) (by show w.heap.size ≤ w1.heap.size; omega) (.int .i64 h'.n)
    have b2' := b2'.setCell (p := ⟨w1.heap.size, 2, none⟩) (by show w.heap.size ≤ w1.heap.size; omega) (.slice v3.U h'.us.length v3.cu)
    have b2' := b2'.setCell (p := ⟨w1.heap.size, 3, none⟩) (by show w.heap.size ≤ w1.heap.size; omega) (.slice v3.V h'.l.length v3.cv)
    skip
    skip
    obtain ⟨z0, z1, z2, z3, z4, z5, z6, z7, zf⟩ := id t2
    obtain ⟨y0, y1, y2, y3, y4, y5, y6, y7, yf⟩ := id t0'
    go_wp2
    exact bodyPost_ret (res_ss3 rfl rfl (t0'.all (.slice v3.A h'.ws.length v3.ca) (.int .i64 h'.n) (.slice v3.U h'.us.length v3.cu) (.slice v3.V h'.l.length v3.cv) (.int .i64 s.n) (.slice O2 s.os.length c2) (.int .u64 (s.fa : Nat)) (.int .u64 (s.go : Nat)))) rfl ⟨v3, O2, c2, A3, c3, rfl, ((OwnsSc.mk (s := clnSc s h') (o4.mono (B' := w1.heap.size + 1) (by omega)) oo).over8 (g := w.heap.size + 1) (by omega) (.slice v3.A h'.ws.length v3.ca) (.int .i64 h'.n) (.slice v3.U h'.us.length v3.cu) (.slice v3.V h'.l.length v3.cv) (.int .i64 s.n) (.slice O2 s.os.length c2) (.int .u64 (s.fa : Nat)) (.int .u64 (s.go : Nat))).mono (by omega), (over8N (g := w.heap.size + 1) r4 (by omega) (.slice v3.A h'.ws.length v3.ca) (.int .i64 h'.n) (.slice v3.U h'.us.length v3.cu) (.slice v3.V h'.l.length v3.cv) (.int .i64 s.n) (.slice O2 s.os.length c2) (.int .u64 (s.fa : Nat)) (.int .u64 (s.go : Nat))).mono (by omega), below8 (g := w.heap.size + 1) b2' (by omega) (.slice v3.A h'.ws.length v3.ca) (.int .i64 h'.n) (.slice v3.U h'.us.length v3.cu) (.slice v3.V h'.l.length v3.cv) (.int .i64 s.n) (.slice O2 s.os.length c2) (.int .u64 (s.fa : Nat)) (.int .u64 (s.go : Nat))⟩
set_option maxHeartbeats 4000000 in
theorem fthere_any (hz : Sizes w) (m : SM w v O s) (hs : Short s.h) (hnil : v.V = none → v.cv = 0) (a b y : Int) (hE : TheE s a b y) :
    Calls Tryz.prog 53 #[scV v O co s] w fun e w' => e = .returned (.tuple #[.int .i64 a, .int .i64 b, .int .i64 y]) ∧ Below w.heap.size w w' := by
  rcases hE with ⟨hk, rfl, rfl, rfl⟩ | ⟨hk, rfl, rfl, rfl⟩
  · have HV := Lib.hid fun (w : World) z m => fview_bad (w := w) (v := v) (O := O) (s := s) co z m hs hk
    clear hk hs
    unfold scV at HV ⊢
    unfold hv0 sc0 hp0 at HV
    simp only at HV
    go_enter Tryz.func53, Tryz.ntmps53
    go_wp2_with fail
    go_at_call 123
    refine (HV.out _ (hz.later bX) (m.later bX)).mono ?_
    rintro e w1 ⟨rfl, hb_w1⟩
    obtain ⟨hc_w1, hf_w1⟩ := bcell hb_w1; have hz_w1_w_0 : w.heap.size < w1.heap.size := lY hb_w1.size; have hs_w1 := hb_w1.size; (try simp only [zZ] at hs_w1)
    go_wp2
    go_ret3
    exact ⟨rfl, bX⟩
  · have HV := Lib.hid fun (w : World) z m => fview_ok (w := w) (v := v) (O := O) (s := s) co z m hk
    have HP := Lib.hid fun (w : World) m => fpresent_any (w := w) (v := v) (O := O) (s := s) co m hk
    have HU := Lib.hid fun (w : World) m => fused_any (w := w) (v := v) (O := O) (s := s) co m hk
    have hnn := hk.nn
    have c1 := countTo_le s.os s.n.toNat
    have c2 := countTo_le s.h.us s.n.toNat
    clear hk hs
    unfold scV at HV HP HU ⊢
    generalize countTo s.os s.n.toNat = q1 at *
    generalize countTo s.h.us s.n.toNat = q2 at *
    have hw1 : IntKind.i64.wrap (s.n - (q1 : Int) - (q2 : Int)) = s.n - (q1 : Int) - (q2 : Int) := IntWalk.i64_in _ (by omega)
    go_enter Tryz.func53, Tryz.ntmps53
    go_wp2_with fail
    go_at_call 123
    refine (HV.out _ (hz.later bX) (m.later bX)).mono ?_
    rintro e w1 ⟨rfl, hb_w1⟩
    obtain ⟨hc_w1, hf_w1⟩ := bcell hb_w1; have hz_w1_w_0 : w.heap.size < w1.heap.size := lY hb_w1.size; have hs_w1 := hb_w1.size; (try simp only [zZ] at hs_w1)
    have b1 : Below w.heap.size w w1 := bX
    have t1 := E8.new w1 (.slice v.A s.h.ws.length v.ca) (.int .i64 s.h.n) (.slice v.U s.h.us.length v.cu) (.slice v.V s.h.l.length v.cv) (.int .i64 s.n) (.slice O s.os.length co) (.int .u64 (s.fa : Nat)) (.int .u64 (s.go : Nat)) 184
    have m1 := m.later b1
    have m2 := m1.later ((Below.refl _ _).alloc (Nat.le_refl _) (.cells #[.slice v.A s.h.ws.length v.ca, .int .i64 s.h.n, .slice v.U s.h.us.length v.cu, .slice v.V s.h.l.length v.cv, .int .i64 s.n, .slice O s.os.length co, .int .u64 (s.fa : Nat), .int .u64 (s.go : Nat)] 184))
    clear hc_w1 hf_w1
    obtain ⟨x0, x1, x2, x3, x4, x5, x6, x7, xf⟩ := id t1
    go_wp2_with fail
    go_region_held3 (fun X : World => X.cell? ⟨w1.heap.size, 0, none⟩ = some (.slice v.A s.h.ws.length v.ca) ∧ X.cell? ⟨w1.heap.size, 1, none⟩ = some (.int .i64 s.h.n) ∧ X.cell? ⟨w1.heap.size, 2, none⟩ = some (.slice v.U s.h.us.length v.cu) ∧ X.cell? ⟨w1.heap.size, 3, none⟩ = some (.slice v.V s.h.l.length v.cv) ∧ X.cell? ⟨w1.heap.size, 4, none⟩ = some (.int .i64 s.n) ∧ X.cell? ⟨w1.heap.size, 5, none⟩ = some (.slice O s.os.length co) ∧ X.cell? ⟨w1.heap.size, 6, none⟩ = some (.int .u64 (s.fa : Nat)) ∧ X.cell? ⟨w1.heap.size, 7, none⟩ = some (.int .u64 (s.go : Nat)))
        ((refine ⟨?_, ?_, ?_, ?_, ?_, ?_, ?_, ?_⟩ <;> first | assumption | (simp [go_sem]; done)))
        ((first
          | (go_at_call 129; refine (HP.out _ (m2.later bX)).mono ?_; rintro e w2 ⟨rfl, hb_w2⟩; obtain ⟨hc_w2, hf_w2⟩ := bcell hb_w2; have hz_w2_w1_0 : w1.heap.size < w2.heap.size := lY hb_w2.size; have hs_w2 := hb_w2.size; (try simp only [zZ] at hs_w2); clear hc_w2 hf_w2; have n0 : w2.cell? ⟨w1.heap.size, 0, none⟩ = some (.slice v.A s.h.ws.length v.ca) := (hb_w2.cell lX).trans kY; have n1 : w2.cell? ⟨w1.heap.size, 1, none⟩ = some (.int .i64 s.h.n) := (hb_w2.cell lX).trans kY; have n2 : w2.cell? ⟨w1.heap.size, 2, none⟩ = some (.slice v.U s.h.us.length v.cu) := (hb_w2.cell lX).trans kY; have n3 : w2.cell? ⟨w1.heap.size, 3, none⟩ = some (.slice v.V s.h.l.length v.cv) := (hb_w2.cell lX).trans kY; have n4 : w2.cell? ⟨w1.heap.size, 4, none⟩ = some (.int .i64 s.n) := (hb_w2.cell lX).trans kY; have n5 : w2.cell? ⟨w1.heap.size, 5, none⟩ = some (.slice O s.os.length co) := (hb_w2.cell lX).trans kY; have n6 : w2.cell? ⟨w1.heap.size, 6, none⟩ = some (.int .u64 (s.fa : Nat)) := (hb_w2.cell lX).trans kY; have n7 : w2.cell? ⟨w1.heap.size, 7, none⟩ = some (.int .u64 (s.go : Nat)) := (hb_w2.cell lX).trans kY)
          | (go_at_call 131; refine (HU.out _ (m2.later bX)).mono ?_; rintro e w3 ⟨rfl, hb_w3⟩; obtain ⟨hc_w3, hf_w3⟩ := bcell hb_w3; have hz_w3_w1_0 : w1.heap.size < w3.heap.size := lY hb_w3.size; have hs_w3 := hb_w3.size; (try simp only [zZ] at hs_w3); clear hc_w3 hf_w3; have mm0 : w3.cell? ⟨w1.heap.size, 0, none⟩ = some (.slice v.A s.h.ws.length v.ca) := (hb_w3.cell lX).trans kY; have mm1 : w3.cell? ⟨w1.heap.size, 1, none⟩ = some (.int .i64 s.h.n) := (hb_w3.cell lX).trans kY; have mm2 : w3.cell? ⟨w1.heap.size, 2, none⟩ = some (.slice v.U s.h.us.length v.cu) := (hb_w3.cell lX).trans kY; have mm3 : w3.cell? ⟨w1.heap.size, 3, none⟩ = some (.slice v.V s.h.l.length v.cv) := (hb_w3.cell lX).trans kY; have mm4 : w3.cell? ⟨w1.heap.size, 4, none⟩ = some (.int .i64 s.n) := (hb_w3.cell lX).trans kY; have mm5 : w3.cell? ⟨w1.heap.size, 5, none⟩ = some (.slice O s.os.length co) := (hb_w3.cell lX).trans kY; have mm6 : w3.cell? ⟨w1.heap.size, 6, none⟩ = some (.int .u64 (s.fa : Nat)) := (hb_w3.cell lX).trans kY; have mm7 : w3.cell? ⟨w1.heap.size, 7, none⟩ = some (.int .u64 (s.go : Nat)) := (hb_w3.cell lX).trans kY)))
    go_wp2
    go_ret3
    exact ⟨rfl, bX⟩
end
set_option maxHeartbeats 4000000 in
theorem fmake_any {w : World} {v : Hv} {h : Hp} (hz : Sizes w) (m : HM w w.heap.size v h) (hs : Short h) (hnil : v.V = none → v.cv = 0) (s' : Sc) (y : Int) (hE : MkS h s' y) :
    Calls Tryz.prog 57 #[hpV v h] w fun e w' => ∃ v' O c, e = .returned (.tuple #[scV v' O c s', .int .i64 y]) ∧ OwnsSc w' w.heap.size v' O s' ∧ Below w.heap.size w w' := by
  rcases hE with ⟨hk, rfl, rfl⟩ | ⟨hk, rfl, rfl⟩
  · have HC := Lib.hid fun (w : World) z m => zcheck_any (w := w) (v := v) (h := h) z m (by have := hs.l; omega) hs.ws 2 (.inr ⟨hk, rfl⟩)
    clear hk hs
    unfold hpV hpv at HC ⊢
    go_enter Tryz.func57, Tryz.ntmps57
    go_wp2_with fail
    go_at_call 21
    refine (HC.out _ (hz.later bX) (m.later bX)).mono ?_
    rintro e w1 ⟨rfl, hb_w1⟩
    obtain ⟨hc_w1, hf_w1⟩ := bcell hb_w1; have hz_w1_w_0 : w.heap.size < w1.heap.size := lY hb_w1.size; have hz_w1_w_1 : w.heap.size + 1 < w1.heap.size := lY hb_w1.size; have hs_w1 := hb_w1.size; (try simp only [zZ] at hs_w1)
    have b1 : Below w.heap.size w w1 := bX
    have t0 := (E8.new (w.alloc (.cells #[.slice v.A h.ws.length v.ca, .int .i64 h.n, .slice v.U h.us.length v.cu, .slice v.V h.l.length v.cv] 31)) (.slice none 0 0) (.int .i64 0) (.slice none 0 0) (.slice none 0 0) (.int .i64 0) (.slice none 0 0) (.int .u64 0) (.int .u64 0) 64).later hb_w1
    simp only [zA] at t0
    obtain ⟨y0, y1, y2, y3, y4, y5, y6, y7, yf⟩ := id t0
    clear hc_w1 hf_w1
    go_wp2
    exact bodyPost_ret (res_ss2 rfl rfl (t0.all _ _ _ _ _ _ _ _)) rfl ⟨hv0, none, 0, rfl, OwnsSc.zero _ _, below8 b1 lX _ _ _ _ _ _ _ _⟩
  · have HC := Lib.hid fun (w : World) z m => zcheck_any (w := w) (v := v) (h := h) z m (by have := hs.l; omega) hs.ws 0 (.inl ⟨hk, rfl⟩)
    have HP := Lib.hid fun (w : World) m => plainH_any (w := w) (v := v) (h := h) m hk.framed hnil
    have HMK := Lib.hid fun (w : World) => make_ok h.n w hk.framed.pages.1 hk.framed.pages.2.1
    clear hk hs hnil
    unfold makS scV
    simp only
    unfold Fresh at HMK
    generalize wordsN h.n = os at *
    unfold hpV hpv at HC HP ⊢
    go_enter Tryz.func57, Tryz.ntmps57
    go_wp2_with fail
    go_at_call 21
    refine (HC.out _ (hz.later bX) (m.later bX)).mono ?_
    rintro e w1 ⟨rfl, hb_w1⟩
    obtain ⟨hc_w1, hf_w1⟩ := bcell hb_w1; have hz_w1_w_0 : w.heap.size < w1.heap.size := lY hb_w1.size; have hz_w1_w_1 : w.heap.size + 1 < w1.heap.size := lY hb_w1.size; have hs_w1 := hb_w1.size; (try simp only [zZ] at hs_w1)
    have b1 : Below w.heap.size w w1 := bX
    have t0 := (E8.new (w.alloc (.cells #[.slice v.A h.ws.length v.ca, .int .i64 h.n, .slice v.U h.us.length v.cu, .slice v.V h.l.length v.cv] 31)) (.slice none 0 0) (.int .i64 0) (.slice none 0 0) (.slice none 0 0) (.int .i64 0) (.slice none 0 0) (.int .u64 0) (.int .u64 0) 64).later hb_w1
    have x0 := ((HIn.new m 31).later ((Below.refl _ _).alloc (Nat.le_refl _) (.cells #[.slice none 0 0, .int .i64 0, .slice none 0 0, .slice none 0 0, .int .i64 0, .slice none 0 0, .int .u64 0, .int .u64 0] 64))).later hb_w1
    simp only [zA] at t0
    clear hc_w1 hf_w1
    obtain ⟨c0, c1, c2, c3, f0, f1, f2, f3⟩ := id x0.box
    go_wp2_with fail
    go_at_call 133
    refine (HMK.out _).mono ?_
    rintro e w2 ⟨A2, k2, rfl, o2, hb_w2⟩
    clear c0 c1 c2 c3 f0 f1 f2 f3
    have b2 := b1.trans (hb_w2.mono b1.size)
    have t0 := t0.later hb_w2
    have x0 := x0.later hb_w2
    have s2 := hb_w2.size
    have sw := b1.size
    have aB : Below w2.heap.size w2 (w2.alloc (.cells #[.int .i64 h.n, .slice A2 os.length k2] 26)) := (Below.refl _ _).alloc (Nat.le_refl _) _
    have t0 := t0.later aB
    have x0 := x0.later aB
    have o2 := o2.later aB
    have q2 := Two.new w2 (.int .i64 h.n) (.slice A2 os.length k2) 26
    have b2 := b2.trans (aB.mono b2.size)
    have z0 := t0.lt
    clear aB hb_w2
    obtain ⟨c0, c1, c2, c3, f0, f1, f2, f3⟩ := id x0.box
    obtain ⟨g0, g1, gf⟩ := id q2
    obtain ⟨y0, y1, y2, y3, y4, y5, y6, y7, yf⟩ := id t0
    have zg := World.block_lt_of_cell? _ _ g0
    have zw : w.heap.size + 1 < (w2.alloc (.cells #[.int .i64 h.n, .slice A2 os.length k2] 26)).heap.size := t0.lt
    go_wp2_with fail
    go_region_with (go_at_call 134; refine (HP.out _ (x0.m.later bX)).mono ?_; rintro e w3 ⟨v3, rfl, o3, hb_w3⟩; have k3 : Below (w2.alloc (.cells #[.int .i64 h.n, .slice A2 os.length k2] 26)).heap.size (w2.alloc (.cells #[.int .i64 h.n, .slice A2 os.length k2] 26)) w3 := bX; have t3 := t0.later k3; have q3 := q2.later k3; have n0 := q3.c0; have n1 := q3.c1; obtain ⟨m0, m1, m2, m3, m4, m5, m6, m7, mf⟩ := id t3)
    all_goals (have b3 := b2.trans (k3.mono b2.size))
    all_goals (have oo := (o2.later k3).mono (B' := w.heap.size + 2) (by omega))
    all_goals (have o4 := o3.mono (B' := w.heap.size + 2) (by first | omega | (simp only [zD, zA]; omega)))
    all_goals (try go_wp2)
    all_goals exact bodyPost_ret (res_ss2 rfl rfl (t3.all (.slice v3.A h.ws.length v3.ca) (.int .i64 h.n) (.slice v3.U h.us.length v3.cu) (.slice v3.V h.l.length v3.cv) (.int .i64 h.n) (.slice A2 os.length k2) (.int .u64 0) (.int .u64 0))) rfl ⟨v3, A2, k2, rfl, ((OwnsSc.mk (s := ⟨h, h.n, os, 0, 0⟩) o4 oo).over8 (g := w.heap.size + 1) (by omega) (.slice v3.A h.ws.length v3.ca) (.int .i64 h.n) (.slice v3.U h.us.length v3.cu) (.slice v3.V h.l.length v3.cv) (.int .i64 h.n) (.slice A2 os.length k2) (.int .u64 0) (.int .u64 0)).mono (B' := w.heap.size) (by omega), below8 (g := w.heap.size + 1) b3 (by omega) (.slice v3.A h.ws.length v3.ca) (.int .i64 h.n) (.slice v3.U h.us.length v3.cu) (.slice v3.V h.l.length v3.cv) (.int .i64 h.n) (.slice A2 os.length k2) (.int .u64 0) (.int .u64 0)⟩
end Go.Proofs.YtkfmbhlefppkhaaGreatDoor
