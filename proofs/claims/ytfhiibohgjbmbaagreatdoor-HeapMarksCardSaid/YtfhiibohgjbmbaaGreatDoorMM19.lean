/- Parts of the proof. -/
import Derived.Test.YtfhiibohgjbmbaaGreatDoorMM18
set_option maxRecDepth 100000
set_option linter.unusedVariables false
set_option linter.unusedSimpArgs false
namespace Go.Proofs.YtfhiibohgjbmbaaGreatDoor
open Go.RowKit
theorem MarE.short {h : Hp} {a : Nat} {h' : Hp} {b : Bool} {y : Int} (hE : MarE h a h' b y) : Short h' := by
  by_cases hk : OkH h
  · exact (hE.ok hk).short
  · rcases hE with ⟨_, rfl, _⟩ | ⟨q, _⟩ | ⟨q, _⟩
    · exact Short.zero
    · exact absurd q hk
    · exact absurd q hk
theorem UnmE.short {h : Hp} {h' : Hp} {y : Int} (hE : UnmE h h' y) : Short h' := by
  by_cases hk : OkH h
  · exact (hE.ok hk).short
  · rcases hE with ⟨_, rfl, _⟩ | ⟨q, _⟩ | ⟨q, _⟩
    · exact Short.zero
    · exact absurd q hk
    · exact absurd q hk
theorem ObjE.len {h : Hp} {t : List Nat} {y : Int} (hE : ObjE h t y) : t.length ≤ 2048 := by
  rcases hE with ⟨_, rfl, _⟩ | ⟨hk, rfl, _⟩
  · simp
  · have := addrs_len hk; omega
set_option maxHeartbeats 8000000 in
theorem heapMarks_walk (v : Hv) (h : Hp) (a : Nat) (w : World) (hz : Sizes w) (hM : HM w w.heap.size v h) (hs : Short h) (ha : a < W64) :
    Calls Tryz.prog 5 #[hpV v h, .int .u64 (a : Nat)] w fun e w' => e = .returned (.bool true) ∧ Below w.heap.size w w' := by
  have X0 := HIn.new hM 31
  obtain ⟨h1, b1, y1, E1⟩ := MarE.ex h a
  obtain ⟨b2, y2, E2⟩ := MkdE.ex h a
  obtain ⟨h3, y3, E3⟩ := UnmE.ex h
  obtain ⟨t, y4, E4⟩ := ObjE.ex h
  have hs1 := E1.short
  have hs3 := E3.short
  have htl := E4.len
  have HCP := Lib.hid fun (w : World) hM => hcopyN_any (w := w) (v := v) (h := h) hM hs
  have HM1 := Lib.hid fun (w : World) (v : Hv) hz hM hn => zmarkH_any (w := w) (v := v) (h := h) hz hM (by have := hs.l; omega) hs.ws hn a ha h1 b1 y1 E1
  have HM2 := Lib.hid fun (w : World) (v : Hv) hM => xmarkH_any (w := w) (v := v) (h := h) hM (by have := hs.l; omega) a h1 b1 y1 E1
  have HA1 := Lib.hid fun (w : World) (v : Hv) hz hM => zmarked_any (w := w) (v := v) (h := h) hz hM (by have := hs.l; omega) hs.ws a ha b2 y2 E2
  have HA2 := Lib.hid fun (w : World) (v : Hv) hM => xmarkedH_any (w := w) (v := v) (h := h) hM (by have := hs.l; omega) a b2 y2 E2
  have HU1 := Lib.hid fun (w : World) (v : Hv) hz hM hn => zunmarkH_any (w := w) (v := v) (h := h) hz hM (by have := hs.l; omega) hs.ws hn h3 y3 E3
  have HU2 := Lib.hid fun (w : World) (v : Hv) hM => xunmarkH_any (w := w) (v := v) (h := h) hM (by have := hs.l; omega) h3 y3 E3
  have HO1 := Lib.hid fun (w : World) (v : Hv) hz hM => zobjH_any (w := w) (v := v) (h := h) hz hM (by have := hs.l; omega) hs.ws t y4 E4
  have HO2 := Lib.hid fun (w : World) (v : Hv) hM => xobjH_any (w := w) (v := v) (h := h) hM (by have := hs.l; omega) t y4 E4
  have HC1 := Lib.hid fun (w : World) (v v' : Hv) m m' => hsame_any (w := w) (v := v) (v' := v') (h := h1) m m' hs1
  have HC3 := Lib.hid fun (w : World) (v v' : Hv) m m' => hsame_any (w := w) (v := v) (v' := v') (h := h3) m m' hs3
  have HC0 := Lib.hid fun (w : World) (v v' : Hv) m m' => hsame_any (w := w) (v := v) (v' := v') (h := h) m m' hs
  have HSA := Lib.hid fun (w : World) (A C : Option Addr) (ca cc : Nat) hr hq => hsameaddrs_any (w := w) (A := A) (C := C) (t := t) ca cc (by omega) hr hq
  have e1 : (y1 == y1) = true := by simp
  have e2 : (y2 == y2) = true := by simp
  have e3 : (y3 == y3) = true := by simp
  have e4 : (y4 == y4) = true := by simp
  have e5 : (b1 == b1) = true := by simp
  have e6 : (b2 == b2) = true := by simp
  unfold FreshHb at HM1
  unfold GotHb at HM2
  unfold FreshH at HU1
  unfold GotH at HU2
  unfold FreshW at HO1 HO2
  have HTL := Lib.hid htl
  clear E1 E2 E3 E4 hs hs1 hs3 hM htl
  unfold hpV hpv at HCP HM1 HM2 HA1 HA2 HU1 HU2 HO1 HO2 HC1 HC3 HC0 ⊢
  go_enter Tryz.func5, Tryz.ntmps5
  obtain ⟨X0_c0, X0_c1, X0_c2, X0_c3, X0_f0, X0_f1, X0_f2, X0_f3⟩ := id X0.box
  go_wp2_with fail
  go_at_call 14
  refine (HCP.out _ (by exact X0.m)).mono ?_
  rintro e w1 ⟨vg, rfl, mg, ng, hb_w1⟩
  clear X0_c0 X0_c1 X0_c2 X0_c3 X0_f0 X0_f1 X0_f2 X0_f3
  have b_w1 : Below w.heap.size w w1 := bX
  replace X0 := X0.later hb_w1
  have a_w1_0 : Below w1.heap.size w1 (w1.alloc (.cells #[.slice vg.A h.ws.length vg.ca, .int .i64 h.n, .slice vg.U h.us.length vg.cu, .slice vg.V h.l.length vg.cv] 31)) := Below.alloc (Below.refl _ _) (Nat.le_refl _) _
  replace X0 := X0.later a_w1_0
  have Xg := HIn.new mg 31
  have b_w1_0 : Below w.heap.size w (w1.alloc (.cells #[.slice vg.A h.ws.length vg.ca, .int .i64 h.n, .slice vg.U h.us.length vg.cu, .slice vg.V h.l.length vg.cv] 31)) := b_w1.trans (a_w1_0.mono b_w1.size)
  obtain ⟨Xg_c0, Xg_c1, Xg_c2, Xg_c3, Xg_f0, Xg_f1, Xg_f2, Xg_f3⟩ := id Xg.box
  go_wp2_with fail
  go_at_call 29
  refine (HM1.out _ _ (hz.later (by exact b_w1_0)) (by exact Xg.m) ng).mono ?_
  rintro e w2 ⟨v2, rfl, o2, hb_w2⟩
  clear Xg_c0 Xg_c1 Xg_c2 Xg_c3 Xg_f0 Xg_f1 Xg_f2 Xg_f3
  have b_w2 : Below w.heap.size w w2 := b_w1_0.trans (hb_w2.mono b_w1_0.size)
  replace X0 := X0.later hb_w2
  replace Xg := Xg.later hb_w2
  have a_w2_0 : Below w2.heap.size w2 (w2.alloc (.cells #[.slice v2.A h1.ws.length v2.ca, .int .i64 h1.n, .slice v2.U h1.us.length v2.cu, .slice v2.V h1.l.length v2.cv] 31)) := Below.alloc (Below.refl _ _) (Nat.le_refl _) _
  replace X0 := X0.later a_w2_0
  replace Xg := Xg.later a_w2_0
  have X2 := HIn.new o2.hm 31
  have b_w2_0 : Below w.heap.size w (w2.alloc (.cells #[.slice v2.A h1.ws.length v2.ca, .int .i64 h1.n, .slice v2.U h1.us.length v2.cu, .slice v2.V h1.l.length v2.cv] 31)) := b_w2.trans (a_w2_0.mono b_w2.size)
  obtain ⟨X0_c0, X0_c1, X0_c2, X0_c3, X0_f0, X0_f1, X0_f2, X0_f3⟩ := id X0.box
  go_wp2_with fail
  go_at_call 30
  refine (HM2.out _ _ (by exact X0.m)).mono ?_
  rintro e w3 ⟨v3, rfl, m3, hb_w3⟩
  clear X0_c0 X0_c1 X0_c2 X0_c3 X0_f0 X0_f1 X0_f2 X0_f3
  have b_w3 : Below w.heap.size w w3 := b_w2_0.trans (hb_w3.mono b_w2_0.size)
  replace X0 := X0.later hb_w3
  replace Xg := Xg.later hb_w3
  replace X2 := X2.later hb_w3
  have a_w3_0 : Below w3.heap.size w3 (w3.alloc (.cells #[.slice v3.A h1.ws.length v3.ca, .int .i64 h1.n, .slice v3.U h1.us.length v3.cu, .slice v3.V h1.l.length v3.cv] 31)) := Below.alloc (Below.refl _ _) (Nat.le_refl _) _
  replace X0 := X0.later a_w3_0
  replace Xg := Xg.later a_w3_0
  replace X2 := X2.later a_w3_0
  have X3 := HIn.new m3 31
  have b_w3_0 : Below w.heap.size w (w3.alloc (.cells #[.slice v3.A h1.ws.length v3.ca, .int .i64 h1.n, .slice v3.U h1.us.length v3.cu, .slice v3.V h1.l.length v3.cv] 31)) := b_w3.trans (a_w3_0.mono b_w3.size)
  obtain ⟨Xg_c0, Xg_c1, Xg_c2, Xg_c3, Xg_f0, Xg_f1, Xg_f2, Xg_f3⟩ := id Xg.box
  go_wp2_with fail
  go_at_call 31
  refine (HA1.out _ _ (hz.later (by exact b_w3_0)) (by exact Xg.m)).mono ?_
  rintro e w4 ⟨rfl, hb_w4⟩
  clear Xg_c0 Xg_c1 Xg_c2 Xg_c3 Xg_f0 Xg_f1 Xg_f2 Xg_f3
  have b_w4 : Below w.heap.size w w4 := b_w3_0.trans (hb_w4.mono b_w3_0.size)
  replace X0 := X0.later hb_w4
  replace Xg := Xg.later hb_w4
  replace X2 := X2.later hb_w4
  replace X3 := X3.later hb_w4
  obtain ⟨X0_c0, X0_c1, X0_c2, X0_c3, X0_f0, X0_f1, X0_f2, X0_f3⟩ := id X0.box
  go_wp2_with fail
  go_at_call 32
  refine (HA2.out _ _ (by exact X0.m)).mono ?_
  rintro e w5 ⟨rfl, hb_w5⟩
  clear X0_c0 X0_c1 X0_c2 X0_c3 X0_f0 X0_f1 X0_f2 X0_f3
  have b_w5 : Below w.heap.size w w5 := b_w4.trans (hb_w5.mono b_w4.size)
  replace X0 := X0.later hb_w5
  replace Xg := Xg.later hb_w5
  replace X2 := X2.later hb_w5
  replace X3 := X3.later hb_w5
  obtain ⟨Xg_c0, Xg_c1, Xg_c2, Xg_c3, Xg_f0, Xg_f1, Xg_f2, Xg_f3⟩ := id Xg.box
  go_wp2_with fail
  go_at_call 33
  refine (HU1.out _ _ (hz.later (by exact b_w5)) (by exact Xg.m) ng).mono ?_
  rintro e w6 ⟨v6, rfl, o6, hb_w6⟩
  clear Xg_c0 Xg_c1 Xg_c2 Xg_c3 Xg_f0 Xg_f1 Xg_f2 Xg_f3
  have b_w6 : Below w.heap.size w w6 := b_w5.trans (hb_w6.mono b_w5.size)
  replace X0 := X0.later hb_w6
  replace Xg := Xg.later hb_w6
  replace X2 := X2.later hb_w6
  replace X3 := X3.later hb_w6
  have a_w6_0 : Below w6.heap.size w6 (w6.alloc (.cells #[.slice v6.A h3.ws.length v6.ca, .int .i64 h3.n, .slice v6.U h3.us.length v6.cu, .slice v6.V h3.l.length v6.cv] 31)) := Below.alloc (Below.refl _ _) (Nat.le_refl _) _
  replace X0 := X0.later a_w6_0
  replace Xg := Xg.later a_w6_0
  replace X2 := X2.later a_w6_0
  replace X3 := X3.later a_w6_0
  have X6 := HIn.new o6.hm 31
  have b_w6_0 : Below w.heap.size w (w6.alloc (.cells #[.slice v6.A h3.ws.length v6.ca, .int .i64 h3.n, .slice v6.U h3.us.length v6.cu, .slice v6.V h3.l.length v6.cv] 31)) := b_w6.trans (a_w6_0.mono b_w6.size)
  obtain ⟨X0_c0, X0_c1, X0_c2, X0_c3, X0_f0, X0_f1, X0_f2, X0_f3⟩ := id X0.box
  go_wp2_with fail
  go_at_call 34
  refine (HU2.out _ _ (by exact X0.m)).mono ?_
  rintro e w7 ⟨v7, rfl, m7, hb_w7⟩
  clear X0_c0 X0_c1 X0_c2 X0_c3 X0_f0 X0_f1 X0_f2 X0_f3
  have b_w7 : Below w.heap.size w w7 := b_w6_0.trans (hb_w7.mono b_w6_0.size)
  replace X0 := X0.later hb_w7
  replace Xg := Xg.later hb_w7
  replace X2 := X2.later hb_w7
  replace X3 := X3.later hb_w7
  replace X6 := X6.later hb_w7
  have a_w7_0 : Below w7.heap.size w7 (w7.alloc (.cells #[.slice v7.A h3.ws.length v7.ca, .int .i64 h3.n, .slice v7.U h3.us.length v7.cu, .slice v7.V h3.l.length v7.cv] 31)) := Below.alloc (Below.refl _ _) (Nat.le_refl _) _
  replace X0 := X0.later a_w7_0
  replace Xg := Xg.later a_w7_0
  replace X2 := X2.later a_w7_0
  replace X3 := X3.later a_w7_0
  replace X6 := X6.later a_w7_0
  have X7 := HIn.new m7 31
  have b_w7_0 : Below w.heap.size w (w7.alloc (.cells #[.slice v7.A h3.ws.length v7.ca, .int .i64 h3.n, .slice v7.U h3.us.length v7.cu, .slice v7.V h3.l.length v7.cv] 31)) := b_w7.trans (a_w7_0.mono b_w7.size)
  obtain ⟨Xg_c0, Xg_c1, Xg_c2, Xg_c3, Xg_f0, Xg_f1, Xg_f2, Xg_f3⟩ := id Xg.box
  go_wp2_with fail
  go_at_call 35
  refine (HO1.out _ _ (hz.later (by exact b_w7_0)) (by exact Xg.m)).mono ?_
  rintro e w8 ⟨A8, c8, rfl, o8, hb_w8⟩
  clear Xg_c0 Xg_c1 Xg_c2 Xg_c3 Xg_f0 Xg_f1 Xg_f2 Xg_f3
  have b_w8 : Below w.heap.size w w8 := b_w7_0.trans (hb_w8.mono b_w7_0.size)
  replace X0 := X0.later hb_w8
  replace Xg := Xg.later hb_w8
  replace X2 := X2.later hb_w8
  replace X3 := X3.later hb_w8
  replace X6 := X6.later hb_w8
  replace X7 := X7.later hb_w8
  have R8 := o8.row
  obtain ⟨X0_c0, X0_c1, X0_c2, X0_c3, X0_f0, X0_f1, X0_f2, X0_f3⟩ := id X0.box
  go_wp2_with fail
  go_at_call 36
  refine (HO2.out _ _ (by exact X0.m)).mono ?_
  rintro e w9 ⟨A9, c9, rfl, o9, hb_w9⟩
  clear X0_c0 X0_c1 X0_c2 X0_c3 X0_f0 X0_f1 X0_f2 X0_f3
  have b_w9 : Below w.heap.size w w9 := b_w8.trans (hb_w9.mono b_w8.size)
  replace X0 := X0.later hb_w9
  replace Xg := Xg.later hb_w9
  replace X2 := X2.later hb_w9
  replace X3 := X3.later hb_w9
  replace X6 := X6.later hb_w9
  replace X7 := X7.later hb_w9
  replace R8 := R8.later hb_w9
  have R9 := o9.row
  clear o2 m3 o6 m7 o8 o9 mg ng
  go_wp2_with fail
  go_at_call 19
  refine (hlives_any _ (hz.later (by exact b_w9))).mono ?_
  rintro e w10 ⟨rfl, hb_w10⟩
  have b_w10 : Below w.heap.size w w10 := b_w9.trans (hb_w10.mono b_w9.size)
  replace X0 := X0.later hb_w10
  replace Xg := Xg.later hb_w10
  replace X2 := X2.later hb_w10
  replace X3 := X3.later hb_w10
  replace X6 := X6.later hb_w10
  replace X7 := X7.later hb_w10
  replace R8 := R8.later hb_w10
  replace R9 := R9.later hb_w10
  obtain ⟨X2_c0, X2_c1, X2_c2, X2_c3, X2_f0, X2_f1, X2_f2, X2_f3⟩ := id X2.box
  obtain ⟨X3_c0, X3_c1, X3_c2, X3_c3, X3_f0, X3_f1, X3_f2, X3_f3⟩ := id X3.box
  go_wp2_with fail
  go_at_call 20
  refine (HC1.out _ _ _ (by exact X2.m) (by exact X3.m)).mono ?_
  rintro e w11 ⟨rfl, hb_w11⟩
  clear X2_c0 X2_c1 X2_c2 X2_c3 X2_f0 X2_f1 X2_f2 X2_f3 X3_c0 X3_c1 X3_c2 X3_c3 X3_f0 X3_f1 X3_f2 X3_f3
  have b_w11 : Below w.heap.size w w11 := b_w10.trans (hb_w11.mono b_w10.size)
  replace X0 := X0.later hb_w11
  replace Xg := Xg.later hb_w11
  replace X2 := X2.later hb_w11
  replace X3 := X3.later hb_w11
  replace X6 := X6.later hb_w11
  replace X7 := X7.later hb_w11
  replace R8 := R8.later hb_w11
  replace R9 := R9.later hb_w11
  obtain ⟨X6_c0, X6_c1, X6_c2, X6_c3, X6_f0, X6_f1, X6_f2, X6_f3⟩ := id X6.box
  obtain ⟨X7_c0, X7_c1, X7_c2, X7_c3, X7_f0, X7_f1, X7_f2, X7_f3⟩ := id X7.box
  go_wp2_with fail
  go_at_call 20
  refine (HC3.out _ _ _ (by exact X6.m) (by exact X7.m)).mono ?_
  rintro e w12 ⟨rfl, hb_w12⟩
  clear X6_c0 X6_c1 X6_c2 X6_c3 X6_f0 X6_f1 X6_f2 X6_f3 X7_c0 X7_c1 X7_c2 X7_c3 X7_f0 X7_f1 X7_f2 X7_f3
  have b_w12 : Below w.heap.size w w12 := b_w11.trans (hb_w12.mono b_w11.size)
  replace X0 := X0.later hb_w12
  replace Xg := Xg.later hb_w12
  replace X2 := X2.later hb_w12
  replace X3 := X3.later hb_w12
  replace X6 := X6.later hb_w12
  replace X7 := X7.later hb_w12
  replace R8 := R8.later hb_w12
  replace R9 := R9.later hb_w12
  go_wp2_with fail
  go_at_call 37
  refine (HSA.out _ _ _ _ _ (by exact R8) (by exact R9)).mono ?_
  rintro e w13 ⟨rfl, hb_w13⟩
  have b_w13 : Below w.heap.size w w13 := b_w12.trans (hb_w13.mono b_w12.size)
  replace X0 := X0.later hb_w13
  replace Xg := Xg.later hb_w13
  replace X2 := X2.later hb_w13
  replace X3 := X3.later hb_w13
  replace X6 := X6.later hb_w13
  replace X7 := X7.later hb_w13
  replace R8 := R8.later hb_w13
  replace R9 := R9.later hb_w13
  obtain ⟨X0_c0, X0_c1, X0_c2, X0_c3, X0_f0, X0_f1, X0_f2, X0_f3⟩ := id X0.box
  obtain ⟨Xg_c0, Xg_c1, Xg_c2, Xg_c3, Xg_f0, Xg_f1, Xg_f2, Xg_f3⟩ := id Xg.box
  go_wp2_with fail
  go_at_call 20
  refine (HC0.out _ _ _ (by exact Xg.m) (by exact X0.m)).mono ?_
  rintro e w14 ⟨rfl, hb_w14⟩
  clear X0_c0 X0_c1 X0_c2 X0_c3 X0_f0 X0_f1 X0_f2 X0_f3 Xg_c0 Xg_c1 Xg_c2 Xg_c3 Xg_f0 Xg_f1 Xg_f2 Xg_f3
  have b_w14 : Below w.heap.size w w14 := b_w13.trans (hb_w14.mono b_w13.size)
  replace X0 := X0.later hb_w14
  replace Xg := Xg.later hb_w14
  replace X2 := X2.later hb_w14
  replace X3 := X3.later hb_w14
  replace X6 := X6.later hb_w14
  replace X7 := X7.later hb_w14
  replace R8 := R8.later hb_w14
  replace R9 := R9.later hb_w14
  go_wp2
  go_ret
  exact ⟨rfl, b_w14⟩
end Go.Proofs.YtfhiibohgjbmbaaGreatDoor
