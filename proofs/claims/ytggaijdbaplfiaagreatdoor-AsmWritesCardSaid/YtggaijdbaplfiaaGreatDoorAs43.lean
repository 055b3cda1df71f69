/- Contracts of the document's package: line. -/
import Derived.Test.YtggaijdbaplfiaaGreatDoorAs42
namespace Go.Proofs.YtggaijdbaplfiaaGreatDoor
open Go.RowKit
set_option linter.unusedVariables false
set_option linter.unusedSimpArgs false
/-- what is told by words lies in range -/
structure Rng (x : In) : Prop where
  oa : 0 ≤ x.oa ∧ x.oa ≤ 3
  ob : 0 ≤ x.ob ∧ x.ob ≤ 3
  fd : 0 ≤ x.fd ∧ x.fd ≤ 47
  n : 0 ≤ x.n ∧ x.n ≤ 48
  m : x.m < 18446744073709551616
  w : x.w < 18446744073709551616
  a : 0 ≤ x.a ∧ x.a ≤ 3
  b : 0 ≤ x.b ∧ x.b ≤ 3
theorem OkI.rng {x : In} {c : Int} (h : OkI c x) (hc : 0 ≤ c) : Rng x := by
  have g := fun o h1 h9 => h.get hc o h1 h9
  have r1 := g 1 (by omega) (by omega)
  have r2 := g 2 (by omega) (by omega)
  have r3 := g 3 (by omega) (by omega)
  have r4 := g 4 (by omega) (by omega)
  have r5 := g 5 (by omega) (by omega)
  have r6 := g 6 (by omega) (by omega)
  have r7 := g 7 (by omega) (by omega)
  have r8 := g 8 (by omega) (by omega)
  simp only [getO, mostO] at r1 r2 r3 r4 r5 r6 r7 r8
  exact ⟨r1, r2, r3, r4, by omega, by omega, r7, r8⟩
/-- the line so far -/
def lnT (nm h : List UInt8) (P : UInt8 → List UInt8) (k : Nat) : List UInt8 := nm ++ (h.take k).flatMap P
theorem lnT_next (nm h : List UInt8) (P : UInt8 → List UInt8) (k : Nat) (hk : k < h.length) : lnT nm h P (k + 1) = lnT nm h P k ++ P h[k] := by
  unfold lnT
  rw [List.take_add_one, List.getElem?_eq_getElem hk, List.flatMap_append]
  simp
theorem lnT_all (nm h : List UInt8) (P : UInt8 → List UInt8) : lnT nm h P h.length = nm ++ h.flatMap P := by
  unfold lnT
  rw [List.take_length]
theorem lnT_len (nm h : List UInt8) (P : UInt8 → List UInt8) (hP : ∀ c, (P c).length ≤ 1100) (k : Nat) : (lnT nm h P k).length ≤ nm.length + k * 1100 := by
  induction k with
  | zero => simp [lnT]
  | succ k ih =>
    by_cases hk : k < h.length
    · rw [lnT_next nm h P k hk, List.length_append]
      have := hP h[k]
      omega
    · have e : lnT nm h P (k + 1) = lnT nm h P k := by
        unfold lnT
        rw [List.take_of_length_le (by omega), List.take_of_length_le (by omega)]
      rw [e]
      exact Nat.le_trans ih (Nat.add_le_add_left (Nat.mul_le_mul_right _ (Nat.le_succ k)) _)
theorem piece_len (x : In) (lb : List UInt8) (hlb : lb.length ≤ 1000) (c : UInt8) : (pieceD x lb c).length ≤ 1100 := by
  have h1 := digF_len 20 x.a.toNat
  have h2 := digF_len 20 x.b.toNat
  have h3 := digF_len 20 x.oa.toNat
  have h4 := digF_len 20 x.ob.toNat
  have h5 := digF_len 20 x.fd.toNat
  have h6 := digF_len 20 x.n.toNat
  have h7 := digF_len 20 x.m
  have h8 := digF_len 20 x.w
  unfold pieceD digs
  by_cases e1 : c = 65
  · rw [if_pos e1]; simp only [List.length_cons, List.length_append, List.length_nil]; omega
  rw [if_neg e1]
  by_cases e2 : c = 66
  · rw [if_pos e2]; simp only [List.length_cons, List.length_append, List.length_nil]; omega
  rw [if_neg e2]
  by_cases e3 : c = 97
  · rw [if_pos e3]; simp only [List.length_cons, List.length_append, List.length_nil]; omega
  rw [if_neg e3]
  by_cases e4 : c = 98
  · rw [if_pos e4]; simp only [List.length_cons, List.length_append, List.length_nil]; omega
  rw [if_neg e4]
  by_cases e5 : c = 102
  · rw [if_pos e5]; simp only [List.length_cons, List.length_append, List.length_nil]; omega
  rw [if_neg e5]
  by_cases e6 : c = 115
  · rw [if_pos e6]; simp only [List.length_cons, List.length_append, List.length_nil]; omega
  rw [if_neg e6]
  by_cases e7 : c = 119
  · rw [if_pos e7]; simp only [List.length_cons, List.length_append, List.length_nil]; omega
  rw [if_neg e7]
  by_cases e8 : c = 116
  · rw [if_pos e8]; simp only [List.length_cons, List.length_append, List.length_nil]; omega
  rw [if_neg e8]
  exact Nat.zero_le _
theorem conv_pos (v : Int) (h0 : 0 ≤ v) (h1 : v ≤ 100) : IntKind.u64.wrap v = v := by
  have := wrap_u v (by unfold I63; omega)
  rw [if_pos h0] at this
  exact this
theorem fmsD_nm (k o : Int) : (formD k o).nm.length ≤ 5 := by
  unfold formD
  cases h : fms.find? fun f => f.kd == k && (k != 1 || f.op == o) with
  | none => decide
  | some f => exact fms_nm f (List.mem_of_find?_eq_some h)
section
variable {w : World}
set_option maxRecDepth 100000 in
set_option maxHeartbeats 8000000 in
theorem xline_any (x : In) (lb : List UInt8) (hlb : lb.length ≤ 1000) (ho0 : 0 ≤ x.op) (ho1 : x.op < 256) (hR : Rng x) : Calls Tryz.prog 29 #[inv x, .string (bs lb)] w fun e w' => e = .returned (.string (bs (lineD (formD x.kd x.op) x lb))) ∧ Below w.heap.size w w' := by
  have HN := Lib.hid fun (w : World) => xname_any (w := w) x ho0 ho1
  have hh3 := hasD_len x.kd x.op
  have hn5 := fmsD_nm x.kd x.op
  have HLT := Lib.hid (hasD_letters x.kd x.op)
  unfold lineD
  rw [← lnT_all]
  have HTN := Lib.hid fun k hk => lnT_next (formD x.kd x.op).nm (hasF (formD x.kd x.op)) (pieceD x lb) k hk
  have HTL := Lib.hid fun k => lnT_len (formD x.kd x.op).nm (hasF (formD x.kd x.op)) (pieceD x lb) (piece_len x lb hlb) k
  have HT0 : Hid (bs (formD x.kd x.op).nm = bs (lnT (formD x.kd x.op).nm (hasF (formD x.kd x.op)) (pieceD x lb) 0)) := Lib.hid (by simp [lnT])
  have Ha := Lib.hid fun (W : World) => xdigits_any (w := W) x.a.toNat (by have := hR.a; omega)
  have Hb := Lib.hid fun (W : World) => xdigits_any (w := W) x.b.toNat (by have := hR.b; omega)
  have Hoa := Lib.hid fun (W : World) => xdigits_any (w := W) x.oa.toNat (by have := hR.oa; omega)
  have Hob := Lib.hid fun (W : World) => xdigits_any (w := W) x.ob.toNat (by have := hR.ob; omega)
  have Hfd := Lib.hid fun (W : World) => xdigits_any (w := W) x.fd.toNat (by have := hR.fd; omega)
  have Hn := Lib.hid fun (W : World) => xdigits_any (w := W) x.n.toNat (by have := hR.n; omega)
  have Hm := Lib.hid fun (W : World) => xdigits_any (w := W) x.m hR.m
  have Hw := Lib.hid fun (W : World) => xdigits_any (w := W) x.w hR.w
  have hLB : (bs lb).size ≤ 1000 := by rw [bs_size]; exact hlb
  have HP65 : Hid (∀ T : List UInt8, bs T ++ ((⟨#[32, 114]⟩ : ByteArray) ++ bs (digs x.a.toNat)) = bs (T ++ pieceD x lb 65)) := Lib.hid fun T => by
    rw [show (⟨#[32, 114]⟩ : ByteArray) = bs [32, 114] from rfl, bs_append, bs_append]
    rfl
  have HP66 : Hid (∀ T : List UInt8, bs T ++ ((⟨#[32, 114]⟩ : ByteArray) ++ bs (digs x.b.toNat)) = bs (T ++ pieceD x lb 66)) := Lib.hid fun T => by
    rw [show (⟨#[32, 114]⟩ : ByteArray) = bs [32, 114] from rfl, bs_append, bs_append]
    rfl
  have HP97 : Hid (∀ T : List UInt8, bs T ++ ((⟨#[32, 114]⟩ : ByteArray) ++ bs (digs x.oa.toNat)) = bs (T ++ pieceD x lb 97)) := Lib.hid fun T => by
    rw [show (⟨#[32, 114]⟩ : ByteArray) = bs [32, 114] from rfl, bs_append, bs_append]
    rfl
  have HP98 : Hid (∀ T : List UInt8, bs T ++ ((⟨#[32, 114]⟩ : ByteArray) ++ bs (digs x.ob.toNat)) = bs (T ++ pieceD x lb 98)) := Lib.hid fun T => by
    rw [show (⟨#[32, 114]⟩ : ByteArray) = bs [32, 114] from rfl, bs_append, bs_append]
    rfl
  have HP102 : Hid (∀ T : List UInt8, bs T ++ ((⟨#[32]⟩ : ByteArray) ++ bs (digs x.fd.toNat)) = bs (T ++ pieceD x lb 102)) := Lib.hid fun T => by
    rw [show (⟨#[32]⟩ : ByteArray) = bs [32] from rfl, bs_append, bs_append]
    rfl
  have HP115 : Hid (∀ T : List UInt8, bs T ++ ((⟨#[32]⟩ : ByteArray) ++ bs (digs x.n.toNat) ++ (⟨#[32]⟩ : ByteArray) ++ bs (digs x.m)) = bs (T ++ pieceD x lb 115)) := Lib.hid fun T => by
    rw [show (⟨#[32]⟩ : ByteArray) = bs [32] from rfl, bs_append, bs_append, bs_append, bs_append]
    congr 2
    show (32 :: digs x.n.toNat ++ [32]) ++ digs x.m = 32 :: digs x.n.toNat ++ 32 :: digs x.m
    rw [List.append_assoc]
    rfl
  have HP119 : Hid (∀ T : List UInt8, bs T ++ ((⟨#[32]⟩ : ByteArray) ++ bs (digs x.w)) = bs (T ++ pieceD x lb 119)) := Lib.hid fun T => by
    rw [show (⟨#[32]⟩ : ByteArray) = bs [32] from rfl, bs_append, bs_append]
    rfl
  have HP116 : Hid (∀ T : List UInt8, bs T ++ ((⟨#[32]⟩ : ByteArray) ++ bs lb) = bs (T ++ pieceD x lb 116)) := Lib.hid fun T => by
    rw [show (⟨#[32]⟩ : ByteArray) = bs [32] from rfl, bs_append, bs_append]
    rfl
  have wa : IntKind.u64.wrap x.a = x.a := conv_pos _ hR.a.1 (by have := hR.a; omega)
  have za := digs_size x.a.toNat
  have wb : IntKind.u64.wrap x.b = x.b := conv_pos _ hR.b.1 (by have := hR.b; omega)
  have zb := digs_size x.b.toNat
  have woa : IntKind.u64.wrap x.oa = x.oa := conv_pos _ hR.oa.1 (by have := hR.oa; omega)
  have zoa := digs_size x.oa.toNat
  have wob : IntKind.u64.wrap x.ob = x.ob := conv_pos _ hR.ob.1 (by have := hR.ob; omega)
  have zob := digs_size x.ob.toNat
  have wfd : IntKind.u64.wrap x.fd = x.fd := conv_pos _ hR.fd.1 (by have := hR.fd; omega)
  have zfd := digs_size x.fd.toNat
  have wn : IntKind.u64.wrap x.n = x.n := conv_pos _ hR.n.1 (by have := hR.n; omega)
  have zn := digs_size x.n.toNat
  have zm := digs_size x.m
  have zw := digs_size x.w
  have ta : ((x.a.toNat : Nat) : Int) = x.a := Int.toNat_of_nonneg hR.a.1
  rw [ta] at Ha
  clear ta
  have tb : ((x.b.toNat : Nat) : Int) = x.b := Int.toNat_of_nonneg hR.b.1
  rw [tb] at Hb
  clear tb
  have toa : ((x.oa.toNat : Nat) : Int) = x.oa := Int.toNat_of_nonneg hR.oa.1
  rw [toa] at Hoa
  clear toa
  have tob : ((x.ob.toNat : Nat) : Int) = x.ob := Int.toNat_of_nonneg hR.ob.1
  rw [tob] at Hob
  clear tob
  have tfd : ((x.fd.toNat : Nat) : Int) = x.fd := Int.toNat_of_nonneg hR.fd.1
  rw [tfd] at Hfd
  clear tfd
  have tn : ((x.n.toNat : Nat) : Int) = x.n := Int.toNat_of_nonneg hR.n.1
  rw [tn] at Hn
  clear tn
  generalize bs (digs x.a.toNat) = Da at *
  generalize bs (digs x.b.toNat) = Db at *
  generalize bs (digs x.oa.toNat) = Doa at *
  generalize bs (digs x.ob.toNat) = Dob at *
  generalize bs (digs x.fd.toNat) = Dfd at *
  generalize bs (digs x.n.toNat) = Dn at *
  generalize bs (digs x.m) = Dm at *
  generalize bs (digs x.w) = Dw at *
  generalize pieceD x lb = P at *
  generalize (formD x.kd x.op).nm = nm at *
  generalize hasF (formD x.kd x.op) = h at *
  generalize bs lb = LB at *
  clear hR hlb ho0 ho1
  have HLH : Hid (h.length = (bs h).size) := Lib.hid (by rw [bs_size])
  have HGB : Hid (∀ k (hk : k < h.length) (hk2 : k < (bs h).size), (bs h)[k]'hk2 = h[k]) := Lib.hid fun k hk hk2 => rfl
  have hB3 : (bs h).size ≤ 3 := by rw [bs_size]; exact hh3
  rw [HLH.out]
  generalize lnT nm h P = T at *
  unfold inv at HN ⊢
  have HX0 := Lib.hid fun (w : World) => In11.new w x 37
  generalize bs nm = NM at *
  go_enter Tryz.func29, Tryz.ntmps29
  go_wp2_with fail
  go_at_call 42
  refine (HN.out _).mono ?_
  rintro e w1 ⟨rfl, hb_w1⟩
  obtain ⟨hc_w1, hf_w1⟩ := bcell hb_w1; have hz_w1_w_0 : w.heap.size < w1.heap.size := (by have hzz := hb_w1.size; (try simp only [World.size_alloc, World.size_setCell, World.size_drew, World.heap_drewN] at hzz); omega); have hs_w1 := hb_w1.size; (try simp only [World.size_alloc, World.size_setCell, World.size_drew, World.heap_drewN] at hs_w1)
  have HX1 : Hid (In11 w1 w.heap.size 0 x) := Lib.hid ((HX0.out w).later hb_w1)
  have g1 := HX1.out.lt
  clear hc_w1 hf_w1
  go_wp2_with fail
  go_loopw [5, 7] (fun ss ii wr => ∃ k : Nat, ss = .string (bs (T k)) ∧ ii = .int .i64 (k : Nat) ∧ k ≤ (bs h).size ∧ Hid (In11 wr w.heap.size 0 x) ∧ w.heap.size < wr.heap.size ∧ Below w.heap.size w wr) (fun ss ii _ => (bs h).size - (intOf ii).toNat)
  case atStart => exact ⟨0, by rw [HT0.out], rfl, Nat.zero_le _, HX1, g1, (by repeat (first | exact Below.refl _ _ | assumption | (refine below_drewN ?_ _) | (refine Below.drew ?_) | (refine Below.alloc ?_ (by first | omega | (simp; omega) | simp) _) | (refine Below.setCell ?_ (by first | omega | (simp; omega) | simp) _) | (refine below_trans ?_ (by assumption) (by first | omega | (simp; omega) | simp))))⟩
  case round =>
    clear hb_w1 HX1 g1 hs_w1
    obtain ⟨k, rfl, rfl, hk, HX, g1, hb_wr⟩ := hrel
    have hsr := hb_wr.size
    by_cases hlt : k < (bs h).size
    · have hk9 : k < h.length := by rw [HLH.out]; exact hlt
      have i0 : (0 : Int) ≤ (k : Int) := by omega
      have i1 : (k : Int) < ((bs h).size : Int) := by omega
      have hC := HGB.out k hk9 hlt
      have hLT := HLT.out h[k] (List.getElem_mem hk9)
      have HTK := Lib.hid (HTN.out k hk9)
      have hTL := HTL.out k
      have hz : (bs (T k)).size ≤ 5000 := by rw [bs_size]; omega
      generalize hc : h[k] = c at *
      clear hc hTL
      have hC2 : ((bs h)[k]'hlt).toNat = c.toNat := by rw [hC]
      clear hC
      obtain ⟨c0, c1, c2, c3, c4, c5, c6, c7, c8, c9, c10⟩ := id HX.out
      simp only [Nat.zero_add] at c0 c1 c2 c3 c4 c5 c6 c7 c8 c9 c10
      simp only [letters, List.mem_cons, List.not_mem_nil, or_false] at hLT
      rcases hLT with rfl | rfl | rfl | rfl | rfl | rfl | rfl | rfl
      · have hC3 : ((bs h)[k]'hlt).toNat = 65 := hC2
        clear hC2
        have HE := Lib.hid (HP65.out (T k))
        rw [← HTK.out] at HE
        clear HTK
        have y1 : ¬ (9223372036854775807 < 2 + Da.size) := by omega
        have y2 : ¬ (9223372036854775807 < (bs (T k)).size + (2 + Da.size)) := by omega
        generalize bs (T k) = S at *
        go_wp2_with fail
        go_at_call 34
        refine (Ha.out _).mono ?_
        rintro e w2 ⟨rfl, hb_w2⟩
        obtain ⟨hc_w2, hf_w2⟩ := bcell hb_w2; have hs_w2 := hb_w2.size; (try simp only [World.size_alloc, World.size_setCell, World.size_drew, World.heap_drewN] at hs_w2)
        have HX2 : Hid (In11 w2 w.heap.size 0 x) := Lib.hid (HX.out.later hb_w2)
        have g2 : w.heap.size < w2.heap.size := by omega
        have b2 : Below w.heap.size w w2 := (by repeat (first | exact Below.refl _ _ | assumption | (refine below_drewN ?_ _) | (refine Below.drew ?_) | (refine Below.alloc ?_ (by first | omega | (simp; omega) | simp) _) | (refine Below.setCell ?_ (by first | omega | (simp; omega) | simp) _) | (refine below_trans ?_ (by assumption) (by first | omega | (simp; omega) | simp))))
        go_wp2
        go_roundw
        case rel => exact ⟨k + 1, by rw [← HE.out], by go_num, by omega, HX2, g2, b2⟩
        case measure => simp [intOf]; omega
      · have hC3 : ((bs h)[k]'hlt).toNat = 66 := hC2
        clear hC2
        have HE := Lib.hid (HP66.out (T k))
        rw [← HTK.out] at HE
        clear HTK
        have y1 : ¬ (9223372036854775807 < 2 + Db.size) := by omega
        have y2 : ¬ (9223372036854775807 < (bs (T k)).size + (2 + Db.size)) := by omega
        generalize bs (T k) = S at *
        go_wp2_with fail
        go_at_call 34
        refine (Hb.out _).mono ?_
        rintro e w2 ⟨rfl, hb_w2⟩
        obtain ⟨hc_w2, hf_w2⟩ := bcell hb_w2; have hs_w2 := hb_w2.size; (try simp only [World.size_alloc, World.size_setCell, World.size_drew, World.heap_drewN] at hs_w2)
        have HX2 : Hid (In11 w2 w.heap.size 0 x) := Lib.hid (HX.out.later hb_w2)
        have g2 : w.heap.size < w2.heap.size := by omega
        have b2 : Below w.heap.size w w2 := (by repeat (first | exact Below.refl _ _ | assumption | (refine below_drewN ?_ _) | (refine Below.drew ?_) | (refine Below.alloc ?_ (by first | omega | (simp; omega) | simp) _) | (refine Below.setCell ?_ (by first | omega | (simp; omega) | simp) _) | (refine below_trans ?_ (by assumption) (by first | omega | (simp; omega) | simp))))
        go_wp2
        go_roundw
        case rel => exact ⟨k + 1, by rw [← HE.out], by go_num, by omega, HX2, g2, b2⟩
        case measure => simp [intOf]; omega
      · have hC3 : ((bs h)[k]'hlt).toNat = 97 := hC2
        clear hC2
        have HE := Lib.hid (HP97.out (T k))
        rw [← HTK.out] at HE
        clear HTK
        have y1 : ¬ (9223372036854775807 < 2 + Doa.size) := by omega
        have y2 : ¬ (9223372036854775807 < (bs (T k)).size + (2 + Doa.size)) := by omega
        generalize bs (T k) = S at *
        go_wp2_with fail
        go_at_call 34
        refine (Hoa.out _).mono ?_
        rintro e w2 ⟨rfl, hb_w2⟩
        obtain ⟨hc_w2, hf_w2⟩ := bcell hb_w2; have hs_w2 := hb_w2.size; (try simp only [World.size_alloc, World.size_setCell, World.size_drew, World.heap_drewN] at hs_w2)
        have HX2 : Hid (In11 w2 w.heap.size 0 x) := Lib.hid (HX.out.later hb_w2)
        have g2 : w.heap.size < w2.heap.size := by omega
        have b2 : Below w.heap.size w w2 := (by repeat (first | exact Below.refl _ _ | assumption | (refine below_drewN ?_ _) | (refine Below.drew ?_) | (refine Below.alloc ?_ (by first | omega | (simp; omega) | simp) _) | (refine Below.setCell ?_ (by first | omega | (simp; omega) | simp) _) | (refine below_trans ?_ (by assumption) (by first | omega | (simp; omega) | simp))))
        go_wp2
        go_roundw
        case rel => exact ⟨k + 1, by rw [← HE.out], by go_num, by omega, HX2, g2, b2⟩
        case measure => simp [intOf]; omega
      · have hC3 : ((bs h)[k]'hlt).toNat = 98 := hC2
        clear hC2
        have HE := Lib.hid (HP98.out (T k))
        rw [← HTK.out] at HE
        clear HTK
        have y1 : ¬ (9223372036854775807 < 2 + Dob.size) := by omega
        have y2 : ¬ (9223372036854775807 < (bs (T k)).size + (2 + Dob.size)) := by omega
        generalize bs (T k) = S at *
        go_wp2_with fail
        go_at_call 34
        refine (Hob.out _).mono ?_
        rintro e w2 ⟨rfl, hb_w2⟩
        obtain ⟨hc_w2, hf_w2⟩ := bcell hb_w2; have hs_w2 := hb_w2.size; (try simp only [World.size_alloc, World.size_setCell, World.size_drew, World.heap_drewN] at hs_w2)
        have HX2 : Hid (In11 w2 w.heap.size 0 x) := Lib.hid (HX.out.later hb_w2)
        have g2 : w.heap.size < w2.heap.size := by omega
        have b2 : Below w.heap.size w w2 := (by repeat (first | exact Below.refl _ _ | assumption | (refine below_drewN ?_ _) | (refine Below.drew ?_) | (refine Below.alloc ?_ (by first | omega | (simp; omega) | simp) _) | (refine Below.setCell ?_ (by first | omega | (simp; omega) | simp) _) | (refine below_trans ?_ (by assumption) (by first | omega | (simp; omega) | simp))))
        go_wp2
        go_roundw
        case rel => exact ⟨k + 1, by rw [← HE.out], by go_num, by omega, HX2, g2, b2⟩
        case measure => simp [intOf]; omega
      · have hC3 : ((bs h)[k]'hlt).toNat = 102 := hC2
        clear hC2
        have HE := Lib.hid (HP102.out (T k))
        rw [← HTK.out] at HE
        clear HTK
        have y1 : ¬ (9223372036854775807 < 1 + Dfd.size) := by omega
        have y2 : ¬ (9223372036854775807 < (bs (T k)).size + (1 + Dfd.size)) := by omega
        generalize bs (T k) = S at *
        go_wp2_with fail
        go_at_call 34
        refine (Hfd.out _).mono ?_
        rintro e w2 ⟨rfl, hb_w2⟩
        obtain ⟨hc_w2, hf_w2⟩ := bcell hb_w2; have hs_w2 := hb_w2.size; (try simp only [World.size_alloc, World.size_setCell, World.size_drew, World.heap_drewN] at hs_w2)
        have HX2 : Hid (In11 w2 w.heap.size 0 x) := Lib.hid (HX.out.later hb_w2)
        have g2 : w.heap.size < w2.heap.size := by omega
        have b2 : Below w.heap.size w w2 := (by repeat (first | exact Below.refl _ _ | assumption | (refine below_drewN ?_ _) | (refine Below.drew ?_) | (refine Below.alloc ?_ (by first | omega | (simp; omega) | simp) _) | (refine Below.setCell ?_ (by first | omega | (simp; omega) | simp) _) | (refine below_trans ?_ (by assumption) (by first | omega | (simp; omega) | simp))))
        go_wp2
        go_roundw
        case rel => exact ⟨k + 1, by rw [← HE.out], by go_num, by omega, HX2, g2, b2⟩
        case measure => simp [intOf]; omega
      · have hC3 : ((bs h)[k]'hlt).toNat = 115 := hC2
        clear hC2
        have HE := Lib.hid (HP115.out (T k))
        rw [← HTK.out] at HE
        clear HTK
        have y1 : ¬ (9223372036854775807 < 1 + Dn.size) := by omega
        have y2 : ¬ (9223372036854775807 < 1 + Dn.size + 1) := by omega
        have y3 : ¬ (9223372036854775807 < 1 + Dn.size + 1 + Dm.size) := by omega
        have y4 : ¬ (9223372036854775807 < (bs (T k)).size + (1 + Dn.size + 1 + Dm.size)) := by omega
        generalize bs (T k) = S at *
        go_upto_region 17 with (fail)
        refine wp_region_held_drew (S := (fun X : World => X.cell? ⟨w.heap.size, 0, none⟩ = some (.int .u8 x.kd) ∧ X.cell? ⟨w.heap.size, 1, none⟩ = some (.int .u8 x.op) ∧ X.cell? ⟨w.heap.size, 2, none⟩ = some (.int .i64 x.oa) ∧ X.cell? ⟨w.heap.size, 3, none⟩ = some (.int .i64 x.ob) ∧ X.cell? ⟨w.heap.size, 4, none⟩ = some (.int .i64 x.fd) ∧ X.cell? ⟨w.heap.size, 5, none⟩ = some (.int .i64 x.n) ∧ X.cell? ⟨w.heap.size, 6, none⟩ = some (.int .u64 x.m) ∧ X.cell? ⟨w.heap.size, 7, none⟩ = some (.int .u64 x.w) ∧ X.cell? ⟨w.heap.size, 8, none⟩ = some (.int .i64 x.a) ∧ X.cell? ⟨w.heap.size, 9, none⟩ = some (.int .i64 x.b) ∧ X.cell? ⟨w.heap.size, 10, none⟩ = some (.int .i64 x.to))) (by kernel_rfl) ?_ (fun hHeld => ?_)
        · (try dsimp only); refine ⟨?_, ?_, ?_, ?_, ?_, ?_, ?_, ?_, ?_, ?_, ?_⟩ <;> first | assumption | (simp [go_sem]; done) | exact (World.cell?_alloc_lt _ _ ⟨_, _, _⟩ (by first | omega | (simp; omega) | simp)).trans (by assumption)
        refine wpAnyH_take (i := 0) (v := ?_) rfl (by kernel_rfl) (by kernel_rfl) (by kernel_rfl) (fun _ _ _ h => h) (Or.inl ⟨by rfl, ?_⟩) (by assumption) ?_
        rotate_left
        · (intro w hSw; (try dsimp only at hSw); go_simp; first | done | with_reducible rfl)
        try simp only [Act.put, List.getElem_toArray, List.getElem_cons_zero, List.getElem_cons_succ, List.setIfInBounds_toArray, List.set_cons_zero, List.set_cons_succ]
        refine wpAnyH_take (i := 1) (v := ?_) rfl (by kernel_rfl) (by kernel_rfl) (by kernel_rfl) (fun _ _ _ h => h) (Or.inl ⟨by rfl, ?_⟩) (by assumption) ?_
        rotate_left
        · (intro w hSw; (try dsimp only at hSw); go_simp; first | done | with_reducible rfl)
        try simp only [Act.put, List.getElem_toArray, List.getElem_cons_zero, List.getElem_cons_succ, List.setIfInBounds_toArray, List.set_cons_zero, List.set_cons_succ]
        refine wpAnyH_take (i := 2) (v := ?_) rfl (by kernel_rfl) (by kernel_rfl) (by kernel_rfl) (fun _ _ _ h => h) (Or.inl ⟨by rfl, ?_⟩) (by assumption) ?_
        rotate_left
        · (intro w hSw; (try dsimp only at hSw); go_simp; first | done | with_reducible rfl)
        try simp only [Act.put, List.getElem_toArray, List.getElem_cons_zero, List.getElem_cons_succ, List.setIfInBounds_toArray, List.set_cons_zero, List.set_cons_succ]
        refine wpAnyH_take (i := 3) (v := ?_) rfl (by kernel_rfl) (by kernel_rfl) (by kernel_rfl) (fun _ _ _ h => h) (Or.inl ⟨by rfl, ?_⟩) (by assumption) ?_
        rotate_left
        · (intro w hSw; (try dsimp only at hSw); go_simp; first | done | with_reducible rfl)
        try simp only [Act.put, List.getElem_toArray, List.getElem_cons_zero, List.getElem_cons_succ, List.setIfInBounds_toArray, List.set_cons_zero, List.set_cons_succ]
        refine wpAnyH_take (i := 4) (v := ?_) rfl (by kernel_rfl) (by kernel_rfl) (by kernel_rfl) (fun _ _ _ h => h) (Or.inl ⟨by rfl, ?_⟩) (by assumption) ?_
        rotate_left
        · (intro w hSw; (try dsimp only at hSw); go_simp; first | done | with_reducible rfl)
        try simp only [Act.put, List.getElem_toArray, List.getElem_cons_zero, List.getElem_cons_succ, List.setIfInBounds_toArray, List.set_cons_zero, List.set_cons_succ]
        refine wpAnyH_take (i := 5) (v := ?_) rfl (by kernel_rfl) (by kernel_rfl) (by kernel_rfl) (fun _ _ _ h => h) (Or.inl ⟨by rfl, ?_⟩) (by assumption) ?_
        rotate_left
        · (intro w hSw; (try dsimp only at hSw); go_simp; first | done | with_reducible rfl)
        try simp only [Act.put, List.getElem_toArray, List.getElem_cons_zero, List.getElem_cons_succ, List.setIfInBounds_toArray, List.set_cons_zero, List.set_cons_succ]
        refine wpAnyH_take (i := 9) (v := ?_) rfl (by kernel_rfl) (by kernel_rfl) (by kernel_rfl) (fun _ _ _ h => h) (Or.inl ⟨by rfl, ?_⟩) (by assumption) ?_
        rotate_left
        · (intro w hSw; (try dsimp only at hSw); go_simp; first | done | with_reducible rfl)
        try simp only [Act.put, List.getElem_toArray, List.getElem_cons_zero, List.getElem_cons_succ, List.setIfInBounds_toArray, List.set_cons_zero, List.set_cons_succ]
        refine wpAnyH_take (i := 10) (v := ?_) rfl (by kernel_rfl) (by kernel_rfl) (by kernel_rfl) (fun _ _ _ h => h) (Or.inl ⟨by rfl, ?_⟩) (by assumption) ?_
        rotate_left
        · (intro w hSw; (try dsimp only at hSw); go_simp; first | done | with_reducible rfl)
        try simp only [Act.put, List.getElem_toArray, List.getElem_cons_zero, List.getElem_cons_succ, List.setIfInBounds_toArray, List.set_cons_zero, List.set_cons_succ]
        refine wpAnyH_take (i := 11) (v := ?_) rfl (by kernel_rfl) (by kernel_rfl) (by kernel_rfl) (fun _ _ _ h => h) (Or.inl ⟨by rfl, ?_⟩) (by assumption) ?_
        rotate_left
        · (intro w hSw; (try dsimp only at hSw); go_simp; first | done | with_reducible rfl)
        try simp only [Act.put, List.getElem_toArray, List.getElem_cons_zero, List.getElem_cons_succ, List.setIfInBounds_toArray, List.set_cons_zero, List.set_cons_succ]
        refine wpAnyH_take (i := 12) (v := ?_) rfl (by kernel_rfl) (by kernel_rfl) (by kernel_rfl) (fun _ _ _ h => h) (Or.inl ⟨by rfl, ?_⟩) (by assumption) ?_
        rotate_left
        · (intro w hSw; (try dsimp only at hSw); go_simp; first | done | with_reducible rfl)
        try simp only [Act.put, List.getElem_toArray, List.getElem_cons_zero, List.getElem_cons_succ, List.setIfInBounds_toArray, List.set_cons_zero, List.set_cons_succ]
        refine wpAnyH_ready (rs := [6]) (by kernel_rfl) (by simp) ?_
        refine AllReadyH.cons rfl (fun K hK => ?_) AllReadyH.nil
        try simp only [List.getElem_toArray, List.getElem_cons_zero, List.getElem_cons_succ]
        go_simp
        go_at_call 34
        refine (Hn.out _).mono ?_
        rintro e w2 ⟨rfl, hb_w2⟩
        have hs2 := hb_w2.size
        (try simp only [World.size_alloc, World.size_setCell, World.size_drew, World.heap_drewN] at hs2)
        have mw20 : w2.cell? ⟨w.heap.size, 0, none⟩ = some (.int .u8 x.kd) := (hb_w2.cell (p := ⟨w.heap.size, 0, none⟩) (by first | omega | (simp; omega) | simp)).trans (by first | assumption | (simp [go_sem]; done) | exact (World.cell?_alloc_lt _ _ ⟨_, _, _⟩ (by first | omega | (simp; omega) | simp)).trans (by assumption))
        have mw21 : w2.cell? ⟨w.heap.size, 1, none⟩ = some (.int .u8 x.op) := (hb_w2.cell (p := ⟨w.heap.size, 1, none⟩) (by first | omega | (simp; omega) | simp)).trans (by first | assumption | (simp [go_sem]; done) | exact (World.cell?_alloc_lt _ _ ⟨_, _, _⟩ (by first | omega | (simp; omega) | simp)).trans (by assumption))
        have mw22 : w2.cell? ⟨w.heap.size, 2, none⟩ = some (.int .i64 x.oa) := (hb_w2.cell (p := ⟨w.heap.size, 2, none⟩) (by first | omega | (simp; omega) | simp)).trans (by first | assumption | (simp [go_sem]; done) | exact (World.cell?_alloc_lt _ _ ⟨_, _, _⟩ (by first | omega | (simp; omega) | simp)).trans (by assumption))
        have mw23 : w2.cell? ⟨w.heap.size, 3, none⟩ = some (.int .i64 x.ob) := (hb_w2.cell (p := ⟨w.heap.size, 3, none⟩) (by first | omega | (simp; omega) | simp)).trans (by first | assumption | (simp [go_sem]; done) | exact (World.cell?_alloc_lt _ _ ⟨_, _, _⟩ (by first | omega | (simp; omega) | simp)).trans (by assumption))
        have mw24 : w2.cell? ⟨w.heap.size, 4, none⟩ = some (.int .i64 x.fd) := (hb_w2.cell (p := ⟨w.heap.size, 4, none⟩) (by first | omega | (simp; omega) | simp)).trans (by first | assumption | (simp [go_sem]; done) | exact (World.cell?_alloc_lt _ _ ⟨_, _, _⟩ (by first | omega | (simp; omega) | simp)).trans (by assumption))
        have mw25 : w2.cell? ⟨w.heap.size, 5, none⟩ = some (.int .i64 x.n) := (hb_w2.cell (p := ⟨w.heap.size, 5, none⟩) (by first | omega | (simp; omega) | simp)).trans (by first | assumption | (simp [go_sem]; done) | exact (World.cell?_alloc_lt _ _ ⟨_, _, _⟩ (by first | omega | (simp; omega) | simp)).trans (by assumption))
        have mw26 : w2.cell? ⟨w.heap.size, 6, none⟩ = some (.int .u64 x.m) := (hb_w2.cell (p := ⟨w.heap.size, 6, none⟩) (by first | omega | (simp; omega) | simp)).trans (by first | assumption | (simp [go_sem]; done) | exact (World.cell?_alloc_lt _ _ ⟨_, _, _⟩ (by first | omega | (simp; omega) | simp)).trans (by assumption))
        have mw27 : w2.cell? ⟨w.heap.size, 7, none⟩ = some (.int .u64 x.w) := (hb_w2.cell (p := ⟨w.heap.size, 7, none⟩) (by first | omega | (simp; omega) | simp)).trans (by first | assumption | (simp [go_sem]; done) | exact (World.cell?_alloc_lt _ _ ⟨_, _, _⟩ (by first | omega | (simp; omega) | simp)).trans (by assumption))
        have mw28 : w2.cell? ⟨w.heap.size, 8, none⟩ = some (.int .i64 x.a) := (hb_w2.cell (p := ⟨w.heap.size, 8, none⟩) (by first | omega | (simp; omega) | simp)).trans (by first | assumption | (simp [go_sem]; done) | exact (World.cell?_alloc_lt _ _ ⟨_, _, _⟩ (by first | omega | (simp; omega) | simp)).trans (by assumption))
        have mw29 : w2.cell? ⟨w.heap.size, 9, none⟩ = some (.int .i64 x.b) := (hb_w2.cell (p := ⟨w.heap.size, 9, none⟩) (by first | omega | (simp; omega) | simp)).trans (by first | assumption | (simp [go_sem]; done) | exact (World.cell?_alloc_lt _ _ ⟨_, _, _⟩ (by first | omega | (simp; omega) | simp)).trans (by assumption))
        have mw210 : w2.cell? ⟨w.heap.size, 10, none⟩ = some (.int .i64 x.to) := (hb_w2.cell (p := ⟨w.heap.size, 10, none⟩) (by first | omega | (simp; omega) | simp)).trans (by first | assumption | (simp [go_sem]; done) | exact (World.cell?_alloc_lt _ _ ⟨_, _, _⟩ (by first | omega | (simp; omega) | simp)).trans (by assumption))
        try go_wp2_with fail
        refine hK.out _ _ ?_ (fun hHeld => ?_)
        · (try dsimp only); refine ⟨?_, ?_, ?_, ?_, ?_, ?_, ?_, ?_, ?_, ?_, ?_⟩ <;> first | assumption | (simp [go_sem]; done) | exact (World.cell?_alloc_lt _ _ ⟨_, _, _⟩ (by first | omega | (simp; omega) | simp)).trans (by assumption)
        clear hK K
        try simp only [Act.put, List.getElem_toArray, List.getElem_cons_zero, List.getElem_cons_succ, List.setIfInBounds_toArray, List.set_cons_zero, List.set_cons_succ]
        refine wpAnyH_take (i := 7) (v := ?_) rfl (by kernel_rfl) (by kernel_rfl) (by kernel_rfl) (fun _ _ _ h => h) (Or.inl ⟨by rfl, ?_⟩) (by assumption) ?_
        rotate_left
        · (intro w hSw; (try dsimp only at hSw); go_simp; first | done | with_reducible rfl)
        try simp only [Act.put, List.getElem_toArray, List.getElem_cons_zero, List.getElem_cons_succ, List.setIfInBounds_toArray, List.set_cons_zero, List.set_cons_succ]
        refine wpAnyH_take (i := 8) (v := ?_) rfl (by kernel_rfl) (by kernel_rfl) (by kernel_rfl) (fun _ _ _ h => h) (Or.inl ⟨by rfl, ?_⟩) (by assumption) ?_
        rotate_left
        · (intro w hSw; (try dsimp only at hSw); go_simp; first | done | with_reducible rfl)
        try simp only [Act.put, List.getElem_toArray, List.getElem_cons_zero, List.getElem_cons_succ, List.setIfInBounds_toArray, List.set_cons_zero, List.set_cons_succ]
        refine wpAnyH_ready (rs := [13]) (by kernel_rfl) (by simp) ?_
        refine AllReadyH.cons rfl (fun K hK => ?_) AllReadyH.nil
        try simp only [List.getElem_toArray, List.getElem_cons_zero, List.getElem_cons_succ]
        go_simp
        go_at_call 34
        refine (Hm.out _).mono ?_
        rintro e w3 ⟨rfl, hb_w3⟩
        have hs3 := hb_w3.size
        (try simp only [World.size_alloc, World.size_setCell, World.size_drew, World.heap_drewN] at hs3)
        have mw30 : w3.cell? ⟨w.heap.size, 0, none⟩ = some (.int .u8 x.kd) := (hb_w3.cell (p := ⟨w.heap.size, 0, none⟩) (by first | omega | (simp; omega) | simp)).trans (by first | assumption | (simp [go_sem]; done) | exact (World.cell?_alloc_lt _ _ ⟨_, _, _⟩ (by first | omega | (simp; omega) | simp)).trans (by assumption))
        have mw31 : w3.cell? ⟨w.heap.size, 1, none⟩ = some (.int .u8 x.op) := (hb_w3.cell (p := ⟨w.heap.size, 1, none⟩) (by first | omega | (simp; omega) | simp)).trans (by first | assumption | (simp [go_sem]; done) | exact (World.cell?_alloc_lt _ _ ⟨_, _, _⟩ (by first | omega | (simp; omega) | simp)).trans (by assumption))
        have mw32 : w3.cell? ⟨w.heap.size, 2, none⟩ = some (.int .i64 x.oa) := (hb_w3.cell (p := ⟨w.heap.size, 2, none⟩) (by first | omega | (simp; omega) | simp)).trans (by first | assumption | (simp [go_sem]; done) | exact (World.cell?_alloc_lt _ _ ⟨_, _, _⟩ (by first | omega | (simp; omega) | simp)).trans (by assumption))
        have mw33 : w3.cell? ⟨w.heap.size, 3, none⟩ = some (.int .i64 x.ob) := (hb_w3.cell (p := ⟨w.heap.size, 3, none⟩) (by first | omega | (simp; omega) | simp)).trans (by first | assumption | (simp [go_sem]; done) | exact (World.cell?_alloc_lt _ _ ⟨_, _, _⟩ (by first | omega | (simp; omega) | simp)).trans (by assumption))
        have mw34 : w3.cell? ⟨w.heap.size, 4, none⟩ = some (.int .i64 x.fd) := (hb_w3.cell (p := ⟨w.heap.size, 4, none⟩) (by first | omega | (simp; omega) | simp)).trans (by first | assumption | (simp [go_sem]; done) | exact (World.cell?_alloc_lt _ _ ⟨_, _, _⟩ (by first | omega | (simp; omega) | simp)).trans (by assumption))
        have mw35 : w3.cell? ⟨w.heap.size, 5, none⟩ = some (.int .i64 x.n) := (hb_w3.cell (p := ⟨w.heap.size, 5, none⟩) (by first | omega | (simp; omega) | simp)).trans (by first | assumption | (simp [go_sem]; done) | exact (World.cell?_alloc_lt _ _ ⟨_, _, _⟩ (by first | omega | (simp; omega) | simp)).trans (by assumption))
        have mw36 : w3.cell? ⟨w.heap.size, 6, none⟩ = some (.int .u64 x.m) := (hb_w3.cell (p := ⟨w.heap.size, 6, none⟩) (by first | omega | (simp; omega) | simp)).trans (by first | assumption | (simp [go_sem]; done) | exact (World.cell?_alloc_lt _ _ ⟨_, _, _⟩ (by first | omega | (simp; omega) | simp)).trans (by assumption))
        have mw37 : w3.cell? ⟨w.heap.size, 7, none⟩ = some (.int .u64 x.w) := (hb_w3.cell (p := ⟨w.heap.size, 7, none⟩) (by first | omega | (simp; omega) | simp)).trans (by first | assumption | (simp [go_sem]; done) | exact (World.cell?_alloc_lt _ _ ⟨_, _, _⟩ (by first | omega | (simp; omega) | simp)).trans (by assumption))
        have mw38 : w3.cell? ⟨w.heap.size, 8, none⟩ = some (.int .i64 x.a) := (hb_w3.cell (p := ⟨w.heap.size, 8, none⟩) (by first | omega | (simp; omega) | simp)).trans (by first | assumption | (simp [go_sem]; done) | exact (World.cell?_alloc_lt _ _ ⟨_, _, _⟩ (by first | omega | (simp; omega) | simp)).trans (by assumption))
        have mw39 : w3.cell? ⟨w.heap.size, 9, none⟩ = some (.int .i64 x.b) := (hb_w3.cell (p := ⟨w.heap.size, 9, none⟩) (by first | omega | (simp; omega) | simp)).trans (by first | assumption | (simp [go_sem]; done) | exact (World.cell?_alloc_lt _ _ ⟨_, _, _⟩ (by first | omega | (simp; omega) | simp)).trans (by assumption))
        have mw310 : w3.cell? ⟨w.heap.size, 10, none⟩ = some (.int .i64 x.to) := (hb_w3.cell (p := ⟨w.heap.size, 10, none⟩) (by first | omega | (simp; omega) | simp)).trans (by first | assumption | (simp [go_sem]; done) | exact (World.cell?_alloc_lt _ _ ⟨_, _, _⟩ (by first | omega | (simp; omega) | simp)).trans (by assumption))
        try go_wp2_with fail
        refine hK.out _ _ ?_ (fun hHeld => ?_)
        · (try dsimp only); refine ⟨?_, ?_, ?_, ?_, ?_, ?_, ?_, ?_, ?_, ?_, ?_⟩ <;> first | assumption | (simp [go_sem]; done) | exact (World.cell?_alloc_lt _ _ ⟨_, _, _⟩ (by first | omega | (simp; omega) | simp)).trans (by assumption)
        clear hK K
        try simp only [Act.put, List.getElem_toArray, List.getElem_cons_zero, List.getElem_cons_succ, List.setIfInBounds_toArray, List.set_cons_zero, List.set_cons_succ]
        refine wpAnyH_take (i := 14) (v := ?_) rfl (by kernel_rfl) (by kernel_rfl) (by kernel_rfl) (fun _ _ _ h => h) (Or.inl ⟨by rfl, ?_⟩) (by assumption) ?_
        rotate_left
        · (intro w hSw; (try dsimp only at hSw); go_simp; first | done | with_reducible rfl)
        try simp only [Act.put, List.getElem_toArray, List.getElem_cons_zero, List.getElem_cons_succ, List.setIfInBounds_toArray, List.set_cons_zero, List.set_cons_succ]
        refine wpAnyH_take (i := 15) (v := ?_) rfl (by kernel_rfl) (by kernel_rfl) (by kernel_rfl) (fun _ _ _ h => h) (Or.inl ⟨by rfl, ?_⟩) (by assumption) ?_
        rotate_left
        · (intro w hSw; (try dsimp only at hSw); go_simp; first | done | with_reducible rfl)
        try simp only [Act.put, List.getElem_toArray, List.getElem_cons_zero, List.getElem_cons_succ, List.setIfInBounds_toArray, List.set_cons_zero, List.set_cons_succ]
        refine wpAnyH_take (i := 16) (v := ?_) rfl (by kernel_rfl) (by kernel_rfl) (by kernel_rfl) (fun _ _ _ h => h) (Or.inl ⟨by rfl, ?_⟩) (by assumption) ?_
        rotate_left
        · (intro w hSw; (try dsimp only at hSw); go_simp; first | done | with_reducible rfl)
        try simp only [Act.put, List.getElem_toArray, List.getElem_cons_zero, List.getElem_cons_succ, List.setIfInBounds_toArray, List.set_cons_zero, List.set_cons_succ]
        refine wpAnyH_done (by kernel_rfl) ?_ _
        have HX2 : Hid (In11 w3 w.heap.size 0 x) := Lib.hid ((HX.out.later (show Below wr.heap.size wr w2 from (by repeat (first | exact Below.refl _ _ | assumption | (refine below_drewN ?_ _) | (refine Below.drew ?_) | (refine Below.alloc ?_ (by first | omega | (simp; omega) | simp) _) | (refine Below.setCell ?_ (by first | omega | (simp; omega) | simp) _) | (refine below_trans ?_ (by assumption) (by first | omega | (simp; omega) | simp)))))).later (show Below w2.heap.size w2 w3 from (by repeat (first | exact Below.refl _ _ | assumption | (refine below_drewN ?_ _) | (refine Below.drew ?_) | (refine Below.alloc ?_ (by first | omega | (simp; omega) | simp) _) | (refine Below.setCell ?_ (by first | omega | (simp; omega) | simp) _) | (refine below_trans ?_ (by assumption) (by first | omega | (simp; omega) | simp))))))
        have g2 : w.heap.size < w3.heap.size := by omega
        have b2 : Below w.heap.size w w3 := (by repeat (first | exact Below.refl _ _ | assumption | (refine below_drewN ?_ _) | (refine Below.drew ?_) | (refine Below.alloc ?_ (by first | omega | (simp; omega) | simp) _) | (refine Below.setCell ?_ (by first | omega | (simp; omega) | simp) _) | (refine below_trans ?_ (by assumption) (by first | omega | (simp; omega) | simp))))
        go_wp2
        go_roundw
        case rel => exact ⟨k + 1, by rw [← HE.out], by go_num, by omega, HX2, g2, b2⟩
        case measure => simp [intOf]; omega
      · have hC3 : ((bs h)[k]'hlt).toNat = 119 := hC2
        clear hC2
        have HE := Lib.hid (HP119.out (T k))
        rw [← HTK.out] at HE
        clear HTK
        have y1 : ¬ (9223372036854775807 < 1 + Dw.size) := by omega
        have y2 : ¬ (9223372036854775807 < (bs (T k)).size + (1 + Dw.size)) := by omega
        generalize bs (T k) = S at *
        go_wp2_with fail
        go_at_call 34
        refine (Hw.out _).mono ?_
        rintro e w2 ⟨rfl, hb_w2⟩
        obtain ⟨hc_w2, hf_w2⟩ := bcell hb_w2; have hs_w2 := hb_w2.size; (try simp only [World.size_alloc, World.size_setCell, World.size_drew, World.heap_drewN] at hs_w2)
        have HX2 : Hid (In11 w2 w.heap.size 0 x) := Lib.hid (HX.out.later hb_w2)
        have g2 : w.heap.size < w2.heap.size := by omega
        have b2 : Below w.heap.size w w2 := (by repeat (first | exact Below.refl _ _ | assumption | (refine below_drewN ?_ _) | (refine Below.drew ?_) | (refine Below.alloc ?_ (by first | omega | (simp; omega) | simp) _) | (refine Below.setCell ?_ (by first | omega | (simp; omega) | simp) _) | (refine below_trans ?_ (by assumption) (by first | omega | (simp; omega) | simp))))
        go_wp2
        go_roundw
        case rel => exact ⟨k + 1, by rw [← HE.out], by go_num, by omega, HX2, g2, b2⟩
        case measure => simp [intOf]; omega
      · have hC3 : ((bs h)[k]'hlt).toNat = 116 := hC2
        clear hC2
        have HE := Lib.hid (HP116.out (T k))
        rw [← HTK.out] at HE
        clear HTK
        have y1 : ¬ (9223372036854775807 < 1 + LB.size) := by omega
        have y2 : ¬ (9223372036854775807 < (bs (T k)).size + (1 + LB.size)) := by omega
        generalize bs (T k) = S at *
        go_wp2
        go_roundw
        case rel => exact ⟨k + 1, by rw [← HE.out], by go_num, by omega, HX, g1, hb_wr⟩
        case measure => simp [intOf]; omega
    · obtain rfl : k = (bs h).size := by omega
      go_wp2
      go_ret
      exact ⟨rfl, (by repeat (first | exact Below.refl _ _ | assumption | (refine below_drewN ?_ _) | (refine Below.drew ?_) | (refine Below.alloc ?_ (by first | omega | (simp; omega) | simp) _) | (refine Below.setCell ?_ (by first | omega | (simp; omega) | simp) _) | (refine below_trans ?_ (by assumption) (by first | omega | (simp; omega) | simp))))⟩
end
end Go.Proofs.YtggaijdbaplfiaaGreatDoor
