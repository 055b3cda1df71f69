/- Contracts of the document's package: Check, Count, label. -/
import Derived.Test.YtggaijdbaplfiaaGreatDoorAs35
import Derived.Test.YtggaijdbaplfiaaGreatDoorAs39
namespace Go.Proofs.YtggaijdbaplfiaaGreatDoor
open Go.RowKit
set_option linter.unusedVariables false
set_option linter.unusedSimpArgs false
/-- an instruction whose operation's kind is a byte -/
structure OpB (x : In) : Prop where
  r : InR x
  o0 : 0 ≤ x.op
  o1 : x.op < 256
theorem rightD_bool (f : Fm) (x : In) (most : Int) (vn vs s3 : Bool) (hvn : vn = true ↔ f.nm = []) (hvs : vs = true ↔ Sh x.n x.m) (hs3 : (x.n = 0 ∧ x.m = 0) ↔ s3 = false) :
    (!(vn || !(regB x.a ((hasF f).contains 65)) || !(regB x.b ((hasF f).contains 66)) || !(regB x.oa ((hasF f).contains 97)) || !(regB x.ob ((hasF f).contains 98))) && !(decide (x.to < 0) || decide (most < x.to) || !((hasF f).contains 116) && !(x.to == 0)) && !(decide (x.fd < 0) || decide (48 ≤ x.fd) || !((hasF f).contains 102) && !(x.fd == 0)) && !(!vs || !((hasF f).contains 115) && s3 || !((hasF f).contains 119) && !(x.w == 0)) && ((x.kd == 1) || (x.op == 0))) = true ↔ RightD f x most := by
  constructor
  · intro h
    simp only [Bool.and_eq_true, Bool.not_eq_true', Bool.or_eq_false_iff, Bool.not_eq_false', Bool.or_eq_true, decide_eq_false_iff_not, beq_iff_eq] at h
    obtain ⟨⟨⟨⟨⟨⟨⟨⟨h1, h2⟩, h3⟩, h4⟩, h5⟩, ⟨h6, h7⟩, h8⟩, ⟨h9, h10⟩, h11⟩, ⟨h12, h13⟩, h14⟩, h15⟩ := h
    refine ⟨fun e => ?_, h2, h3, h4, h5, by omega, by omega, fun e => ?_, by omega, by omega, fun e => ?_, hvs.1 h12, fun e => ?_, fun e => ?_, h15⟩
    · rw [hvn.2 e] at h1; cases h1
    · rw [e] at h8; simpa using h8
    · rw [e] at h11; simpa using h11
    · rw [e] at h13
      exact hs3.2 (by simpa using h13)
    · rw [e] at h14; simpa using h14
  · intro h
    have e1 : vn = false := by
      cases vn with
      | false => rfl
      | true => exact absurd (hvn.1 rfl) h.nm
    have e3 : ((hasF f).contains 116 = false → (x.to == 0) = true) := fun e => by simpa using h.to2 e
    have e4 : ((hasF f).contains 102 = false → (x.fd == 0) = true) := fun e => by simpa using h.fd2 e
    have e5 : ((hasF f).contains 115 = false → s3 = false) := fun e => hs3.1 (h.sh2 e)
    have e6 : ((hasF f).contains 119 = false → (x.w == 0) = true) := fun e => by simpa using h.w e
    have e7 : ((x.kd == 1) || (x.op == 0)) = true := by simpa using h.op
    have q3 : (!((hasF f).contains 116) && !(x.to == 0)) = false := by
      cases hc : (hasF f).contains 116 with
      | true => rfl
      | false => rw [e3 hc]; rfl
    have q4 : (!((hasF f).contains 102) && !(x.fd == 0)) = false := by
      cases hc : (hasF f).contains 102 with
      | true => rfl
      | false => rw [e4 hc]; rfl
    have q5 : (!((hasF f).contains 115) && s3) = false := by
      cases hc : (hasF f).contains 115 with
      | true => rfl
      | false => rw [e5 hc]; rfl
    have q6 : (!((hasF f).contains 119) && !(x.w == 0)) = false := by
      cases hc : (hasF f).contains 119 with
      | true => rfl
      | false => rw [e6 hc]; rfl
    rw [e1, h.a, h.b, h.oa, h.ob, decide_eq_false (show ¬ x.to < 0 by have := h.to0; omega), decide_eq_false (show ¬ most < x.to by have := h.to1; omega), decide_eq_false (show ¬ x.fd < 0 by have := h.fd0; omega), decide_eq_false (show ¬ 48 ≤ x.fd by have := h.fd1; omega), hvs.2 h.sh, q3, q4, q5, q6, e7]
    rfl
theorem xright_both (x : In) (most : Int) (hx : OpB x) (hm0 : 0 ≤ most) : ∃ b : Bool, (b = true ↔ OkI most x) ∧ Hid (∀ W, Calls Tryz.prog 33 #[.agg #[.int .u8 x.kd, .int .u8 x.op, .int .i64 x.oa, .int .i64 x.ob, .int .i64 x.fd, .int .i64 x.n, .int .u64 x.m, .int .u64 x.w, .int .i64 x.a, .int .i64 x.b, .int .i64 x.to], .int .i64 most] W fun e w' => e = .returned (.bool b) ∧ Below W.heap.size W w') := by
  classical
  have hl : (hasF (formD x.kd x.op)).length ≤ 1000 := by have := hasD_len x.kd x.op; omega
  have hI := hasIn_of (hasF (formD x.kd x.op)) hl
  refine ⟨_, ?_, Lib.hid fun W => xright_b (w := W) x most _ _ (fun w => xname_any x hx.o0 hx.o1) _ _ _ _ _ _ _ _ (hI 65) (hI 66) (hI 97) (hI 98) (hI 116) (hI 102) (hI 115) (hI 119) _ _ _ _ (regIn_any _ _) (regIn_any _ _) (regIn_any _ _) (regIn_any _ _) _ rfl hx.r.m _ _ _ _ _ _ (decide (Sh x.n x.m)) (!decide (x.n = 0 ∧ x.m = 0)) _ _ _ rfl rfl rfl rfl rfl rfl (by simp) (by simp) rfl rfl rfl _ rfl⟩
  rw [rightD_bool (formD x.kd x.op) x most _ _ _ (by rw [beq_iff_eq, ByteArray.toList_eq, bs_data]) (by simp) (by simp)]
  exact rightD_iff hx.r hm0
theorem isG_next (l : List In) (i : Int) (k : Nat) (hk : k < l.length) : isG (l.take (k + 1)) i = (isG (l.take k) i || jumpsD (nthI l k) && (nthI l k).to == i) := by
  unfold isG
  rw [take_nthI l k hk, List.any_append]
  simp
theorem cntG_next (l : List In) (k : Nat) : cntG l (k + 1) = cntG l k + if isG l (k : Int) then 1 else 0 := by
  unfold cntG
  rw [List.range_succ, List.countP_append, List.countP_singleton]
theorem cntG_le (l : List In) (k : Nat) : cntG l k ≤ k := by
  have := List.countP_le_length (p := fun (i : Nat) => isG l (i : Int)) (l := List.range k)
  rw [List.length_range] at this
  exact this
section
variable {w : World}
set_option maxRecDepth 100000 in
set_option maxHeartbeats 4000000 in
theorem xcheckP_any {A : Option Addr} {l : List In} (cap : Nat) (hr : PRow w w.heap.size A l) (hl : l.length ≤ 17592186044416) (hx : ∀ x ∈ l, OpB x) (y : Int) (hy : (OkP l ∧ y = 0) ∨ (¬ OkP l ∧ y = 2)) :
    Calls Tryz.prog 19 #[.slice A l.length cap] w fun e w' => e = .returned (.int .i64 y) ∧ Below w.heap.size w w' := by
  by_cases hlen : 256 < l.length
  · obtain rfl : y = 2 := by
      rcases hy with ⟨h, _⟩ | ⟨_, h⟩
      · exact absurd h.1 (by omega)
      · exact h
    have d1 : decide (256 < (l.length : Int)) = true := decide_eq_true (by omega)
    clear hy
    go_enter Tryz.func19, Tryz.ntmps19
    go_wp2
    go_ret
    exact ⟨rfl, (by repeat (first | exact Below.refl _ _ | assumption | (refine below_drewN ?_ _) | (refine Below.drew ?_) | (refine Below.alloc ?_ (by first | omega | (simp; omega) | simp) _) | (refine Below.setCell ?_ (by first | omega | (simp; omega) | simp) _) | (refine below_trans ?_ (by assumption) (by first | omega | (simp; omega) | simp))))⟩
  · have d1 : decide (256 < (l.length : Int)) = false := decide_eq_false (by omega)
    have hY := Lib.hid hy
    have HX := Lib.hid hx
    clear hy hx
    go_enter Tryz.func19, Tryz.ntmps19
    go_wp2_with fail
    go_loopw [10] (fun ii wr => ∃ k : Nat, ii = .int .i64 (k : Nat) ∧ k ≤ l.length ∧ Hid (∀ j, j < k → OkI l.length (nthI l j)) ∧ Below w.heap.size w wr) (fun ii _ => l.length - (intOf ii).toNat)
    case atStart => exact ⟨0, rfl, Nat.zero_le _, Lib.hid (fun j hj => by omega), (by repeat (first | exact Below.refl _ _ | assumption | (refine below_drewN ?_ _) | (refine Below.drew ?_) | (refine Below.alloc ?_ (by first | omega | (simp; omega) | simp) _) | (refine Below.setCell ?_ (by first | omega | (simp; omega) | simp) _) | (refine below_trans ?_ (by assumption) (by first | omega | (simp; omega) | simp))))⟩
    case round =>
      obtain ⟨k, rfl, hk, hG, hb_wr⟩ := hrel
      have hsr := hb_wr.size
      by_cases hlt : k < l.length
      · obtain ⟨b, off, rfl, hbb, hc⟩ := (hr.later hb_wr).at_ (by omega)
        have c5 := hc k hlt
        clear hc
        obtain ⟨vb, hvb, HV⟩ := xright_both (nthI l k) l.length (HX.out _ (nthI_mem l k hlt)) (by omega)
        have HVB := Lib.hid hvb
        have hk0 : (0 : Int) ≤ (k : Int) := by omega
        have hk1 : (k : Int) < (l.length : Int) := by omega
        clear hvb
        generalize hd : nthI l k = d at *
        have HD := Lib.hid hd
        clear hd
        obtain ⟨c0, c1, c2, c3, c4, c5, c6, c7, c8, c9, c10⟩ := c5
        go_wp2_with fail
        go_at_call 33
        refine (HV.out _).mono ?_
        rintro e w2 ⟨rfl, hb_w2⟩
        obtain ⟨hc_w2, hf_w2⟩ := bcell hb_w2; have hz_w2_wr_0 : wr.heap.size < w2.heap.size := (by have hzz := hb_w2.size; (try simp only [World.size_alloc, World.size_setCell, World.size_drew, World.heap_drewN] at hzz); omega); have hs_w2 := hb_w2.size; (try simp only [World.size_alloc, World.size_setCell, World.size_drew, World.heap_drewN] at hs_w2)
        cases vb with
        | true =>
          have HG2 : Hid (∀ j, j < k + 1 → OkI l.length (nthI l j)) := Lib.hid fun j hj => by
            by_cases e : j = k
            · rw [e, HD.out]; exact HVB.out.1 rfl
            · exact hG.out j (by omega)
          go_wp2
          go_roundw
          case rel => exact ⟨k + 1, by go_num, by omega, HG2, (by repeat (first | exact Below.refl _ _ | assumption | (refine below_drewN ?_ _) | (refine Below.drew ?_) | (refine Below.alloc ?_ (by first | omega | (simp; omega) | simp) _) | (refine Below.setCell ?_ (by first | omega | (simp; omega) | simp) _) | (refine below_trans ?_ (by assumption) (by first | omega | (simp; omega) | simp))))⟩
          case measure => simp [intOf]; omega
        | false =>
          obtain rfl : y = 2 := by
            rcases hY.out with ⟨h, _⟩ | ⟨_, h⟩
            · have h9 := h.2 _ (nthI_mem l k hlt)
              rw [HD.out] at h9
              have := HVB.out.2 h9
              cases this
            · exact h
          go_wp2
          go_ret
          exact ⟨rfl, (by repeat (first | exact Below.refl _ _ | assumption | (refine below_drewN ?_ _) | (refine Below.drew ?_) | (refine Below.alloc ?_ (by first | omega | (simp; omega) | simp) _) | (refine Below.setCell ?_ (by first | omega | (simp; omega) | simp) _) | (refine below_trans ?_ (by assumption) (by first | omega | (simp; omega) | simp))))⟩
      · obtain rfl : k = l.length := by omega
        obtain rfl : y = 0 := by
          rcases hY.out with ⟨_, h⟩ | ⟨h, _⟩
          · exact h
          · refine absurd ⟨by omega, fun x hx => ?_⟩ h
            obtain ⟨j, hj, rfl⟩ := List.getElem_of_mem hx
            rw [← nthI_get l j hj]
            exact hG.out j hj
        go_wp2
        go_ret
        exact ⟨rfl, (by repeat (first | exact Below.refl _ _ | assumption | (refine below_drewN ?_ _) | (refine Below.drew ?_) | (refine Below.alloc ?_ (by first | omega | (simp; omega) | simp) _) | (refine Below.setCell ?_ (by first | omega | (simp; omega) | simp) _) | (refine below_trans ?_ (by assumption) (by first | omega | (simp; omega) | simp))))⟩
theorem kin_next (ks : List Int) (x : Int) (j : Nat) (hj : j < ks.length) : (ks.take (j + 1)).contains x = ((ks.take j).contains x || ks.getD j 0 == x) := by
  rw [List.take_add_one, List.getElem?_eq_getElem hj, List.getD_eq_getElem?_getD, List.getElem?_eq_getElem hj, Bool.eq_iff_iff]
  simp only [List.contains_iff_mem, Bool.or_eq_true, List.mem_append, Option.toList_some, List.mem_singleton, beq_iff_eq, Option.getD_some]
  exact or_congr Iff.rfl eq_comm
set_option maxRecDepth 100000 in
set_option maxHeartbeats 8000000 in
theorem xcountP_any {A K : Option Addr} {l : List In} {ks : List Int} (cap kcap : Nat) (hr : PRow w w.heap.size A l) (hl : l.length ≤ 17592186044416) (hx : ∀ x ∈ l, OpB x) (hK : KRow w w.heap.size K ks) (hkl : ks.length ≤ 140737488351232) (n y : Int) (hy : (OkP l ∧ y = 0 ∧ n = cntK l ks) ∨ (¬ OkP l ∧ y = 2 ∧ n = 0)) :
    Calls Tryz.prog 17 #[.slice A l.length cap, .slice K ks.length kcap] w fun e w' => e = .returned (.tuple #[.int .i64 n, .int .i64 y]) ∧ Below w.heap.size w w' := by
  have HC := Lib.hid fun (W : World) (h : PRow W W.heap.size A l) => xcheckP_any (w := W) cap h hl hx y (hy.imp (fun h => ⟨h.1, h.2.1⟩) (fun h => ⟨h.1, h.2.1⟩))
  rcases hy with ⟨_, rfl, rfl⟩ | ⟨_, rfl, rfl⟩
  · have HN : Hid (cntK (l.take l.length) ks = cntK l ks) := Lib.hid (by rw [List.take_length])
    have HT := Lib.hid fun k (hk : k < l.length) => (show cntK (l.take (k + 1)) ks = cntK (l.take k) ks + if ks.contains (nthI l k).kd then 1 else 0 from by
      rw [take_nthI l k hk]
      unfold cntK
      rw [List.countP_append, List.countP_cons, List.countP_nil, Nat.zero_add])
    have HKN := Lib.hid fun x j hj => kin_next ks x j hj
    have HKE : Hid (∀ x, (ks.take ks.length).contains x = ks.contains x) := Lib.hid fun x => by rw [List.take_length]
    clear hx
    go_enter Tryz.func17, Tryz.ntmps17
    go_wp2_with fail
    go_at_call 19
    refine (HC.out _ hr).mono ?_
    rintro e w1 ⟨rfl, hb_w1⟩
    obtain ⟨hc_w1, hf_w1⟩ := bcell hb_w1; have hs_w1 := hb_w1.size; (try simp only [World.size_alloc, World.size_setCell, World.size_drew, World.heap_drewN] at hs_w1)
    go_wp2_with fail
    go_loopw [6, 17] (fun nn ii wr => ∃ k : Nat, ii = .int .i64 (k : Nat) ∧ nn = .int .i64 (cntK (l.take k) ks : Nat) ∧ cntK (l.take k) ks ≤ k ∧ k ≤ l.length ∧ Below w.heap.size w wr) (fun nn ii _ => l.length - (intOf ii).toNat)
    case atStart => exact ⟨0, rfl, rfl, Nat.le_refl _, Nat.zero_le _, (by repeat (first | exact Below.refl _ _ | assumption | (refine below_drewN ?_ _) | (refine Below.drew ?_) | (refine Below.alloc ?_ (by first | omega | (simp; omega) | simp) _) | (refine Below.setCell ?_ (by first | omega | (simp; omega) | simp) _) | (refine below_trans ?_ (by assumption) (by first | omega | (simp; omega) | simp))))⟩
    case round =>
      clear hb_w1 hc_w1 hf_w1
      generalize wr = wA at *
      obtain ⟨k, rfl, rfl, hn, hk, hb_wA⟩ := hrel
      have hsA := hb_wA.size
      by_cases hlt : k < l.length
      · obtain ⟨b, off, rfl, hbb, hc⟩ := (hr.later hb_wA).at_ (by omega)
        have c5 := hc k hlt
        clear hc
        have hk0 : (0 : Int) ≤ (k : Int) := by omega
        have hk1 : (k : Int) < (l.length : Int) := by omega
        have HX := Lib.hid (HT.out k hlt)
        generalize hd : nthI l k = d at *
        clear hd
        have HD : Hid (In11 (wA.alloc (.cells #[.int .u8 d.kd, .int .u8 d.op, .int .i64 d.oa, .int .i64 d.ob, .int .i64 d.fd, .int .i64 d.n, .int .u64 d.m, .int .u64 d.w, .int .i64 d.a, .int .i64 d.b, .int .i64 d.to] 37)) wA.heap.size 0 d) := Lib.hid (In11.new wA d _)
        generalize cntK (l.take k) ks = N at *
        obtain ⟨c0, c1, c2, c3, c4, c5, c6, c7, c8, c9, c10⟩ := c5
        go_wp2_with fail
        go_loopw [9, 23] (fun vv jj wr => ∃ j : Nat, jj = .int .i64 (j : Nat) ∧ vv = .bool ((ks.take j).contains d.kd) ∧ j ≤ ks.length ∧ wr = wA.alloc (.cells #[.int .u8 d.kd, .int .u8 d.op, .int .i64 d.oa, .int .i64 d.ob, .int .i64 d.fd, .int .i64 d.n, .int .u64 d.m, .int .u64 d.w, .int .i64 d.a, .int .i64 d.b, .int .i64 d.to] 37)) (fun vv jj _ => ks.length - (intOf jj).toNat)
        case atStart => exact ⟨0, rfl, rfl, Nat.zero_le _, rfl⟩
        case round =>
          obtain ⟨j, rfl, rfl, hj, rfl⟩ := hrel
          by_cases hjt : j < ks.length
          · obtain ⟨kb, koff, rfl, hkb, kc⟩ := (hK.later hb_wA).at_ (by omega)
            have kc5 := kc j hjt
            clear kc
            have hj0 : (0 : Int) ≤ (j : Int) := by omega
            have hj1 : (j : Int) < (ks.length : Int) := by omega
            have HKJ := Lib.hid (HKN.out d.kd j hjt)
            generalize ks.getD j 0 = q at *
            generalize hv0 : (ks.take j).contains d.kd = v0 at *
            clear hv0
            cases v0 with
            | true =>
              have HR : Hid ((ks.take (j + 1)).contains d.kd = true) := Lib.hid (by rw [HKJ.out]; rfl)
              go_wp2
              go_roundw
              case rel => exact ⟨j + 1, by go_num, by rw [HR.out], by omega, by first | rfl | trivial⟩
              case measure => simp [intOf]; omega
            | false =>
              by_cases hq : q = d.kd
              · have e1 : (q == d.kd) = true := by simp [hq]
                have HR : Hid ((ks.take (j + 1)).contains d.kd = true) := Lib.hid (by rw [HKJ.out, e1]; rfl)
                clear hq HKJ
                go_wp2
                go_roundw
                case rel => exact ⟨j + 1, by go_num, by rw [HR.out], by omega, by first | rfl | trivial⟩
                case measure => simp [intOf]; omega
              · have e1 : (q == d.kd) = false := by simp [hq]
                have HR : Hid ((ks.take (j + 1)).contains d.kd = false) := Lib.hid (by rw [HKJ.out, e1]; rfl)
                clear hq HKJ
                go_wp2
                go_roundw
                case rel => exact ⟨j + 1, by go_num, by rw [HR.out], by omega, by first | rfl | trivial⟩
                case measure => simp [intOf]; omega
          · obtain rfl : j = ks.length := by omega
            have HKD := Lib.hid (HKE.out d.kd)
            have HX2 := HX.out
            rw [← HKD.out] at HX2
            have HX3 := Lib.hid HX2
            clear HX2 HX
            generalize hv0 : (ks.take ks.length).contains d.kd = v0 at *
            clear hv0
            cases v0 with
            | true =>
              go_wp2
              go_roundw
              case rel => exact ⟨k + 1, by go_num, by rw [HX3.out]; go_num, by rw [HX3.out]; simp; omega, by omega, (by repeat (first | exact Below.refl _ _ | assumption | (refine below_drewN ?_ _) | (refine Below.drew ?_) | (refine Below.alloc ?_ (by first | omega | (simp; omega) | simp) _) | (refine Below.setCell ?_ (by first | omega | (simp; omega) | simp) _) | (refine below_trans ?_ (by assumption) (by first | omega | (simp; omega) | simp))))⟩
              case measure => simp [intOf]; omega
            | false =>
              go_wp2
              go_roundw
              case rel => exact ⟨k + 1, by go_num, by rw [HX3.out]; rfl, by rw [HX3.out]; simp; omega, by omega, (by repeat (first | exact Below.refl _ _ | assumption | (refine below_drewN ?_ _) | (refine Below.drew ?_) | (refine Below.alloc ?_ (by first | omega | (simp; omega) | simp) _) | (refine Below.setCell ?_ (by first | omega | (simp; omega) | simp) _) | (refine below_trans ?_ (by assumption) (by first | omega | (simp; omega) | simp))))⟩
              case measure => simp [intOf]; omega
      · obtain rfl : k = l.length := by omega
        go_wp2
        go_ret2
        rw [← HN.out]
        exact ⟨rfl, (by repeat (first | exact Below.refl _ _ | assumption | (refine below_drewN ?_ _) | (refine Below.drew ?_) | (refine Below.alloc ?_ (by first | omega | (simp; omega) | simp) _) | (refine Below.setCell ?_ (by first | omega | (simp; omega) | simp) _) | (refine below_trans ?_ (by assumption) (by first | omega | (simp; omega) | simp))))⟩
  · clear hx
    go_enter Tryz.func17, Tryz.ntmps17
    go_wp2_with fail
    go_at_call 19
    refine (HC.out _ hr).mono ?_
    rintro e w1 ⟨rfl, hb_w1⟩
    obtain ⟨hc_w1, hf_w1⟩ := bcell hb_w1; have hs_w1 := hb_w1.size; (try simp only [World.size_alloc, World.size_setCell, World.size_drew, World.heap_drewN] at hs_w1)
    go_wp2
    go_ret2
    exact ⟨rfl, (by repeat (first | exact Below.refl _ _ | assumption | (refine below_drewN ?_ _) | (refine Below.drew ?_) | (refine Below.alloc ?_ (by first | omega | (simp; omega) | simp) _) | (refine Below.setCell ?_ (by first | omega | (simp; omega) | simp) _) | (refine below_trans ?_ (by assumption) (by first | omega | (simp; omega) | simp))))⟩
end
end Go.Proofs.YtggaijdbaplfiaaGreatDoor
