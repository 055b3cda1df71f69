/- Contracts of package asm: Check, jumps, Count. -/
import Derived.Test.YtggaijdbaplfiaaGreatDoorAM2
import Derived.Test.YtggaijdbaplfiaaGreatDoorAsL
namespace Go.Proofs.YtggaijdbaplfiaaGreatDoor
open Go.RowKit
set_option linter.unusedVariables false
set_option linter.unusedSimpArgs false
/-- the slice at A holds kinds, ahead of block B -/
structure KRow (w : World) (B : Nat) (A : Option Addr) (ks : List Int) : Prop where
  at_ : 0 < ks.length → ∃ b off, A = some ⟨b, off, none⟩ ∧ b < B ∧ ∀ i, i < ks.length → w.cell? ⟨b, off + i, none⟩ = some (.int .u8 (ks.getD i 0))
theorem KRow.later {w w' : World} {A : Option Addr} {ks : List Int} (h : KRow w w.heap.size A ks) (hb : Below w.heap.size w w') : KRow w' w'.heap.size A ks :=
  ⟨fun hl => by
    obtain ⟨b, off, e, hlt, hc⟩ := h.at_ hl
    exact ⟨b, off, e, Nat.lt_of_lt_of_le hlt hb.size, fun i hi => (hb.cell (p := ⟨b, off + i, none⟩) hlt).trans (hc i hi)⟩⟩
theorem KRow.new (w : World) (t : TypeId) (ks : List Int) (vs : Array Value) (hv : vs = (ks.map fun (k : Int) => Value.int .u8 k).toArray) : KRow (w.alloc (.cells vs t)) (w.alloc (.cells vs t)).heap.size (some ⟨w.heap.size, 0, none⟩) ks := by
  subst hv
  refine ⟨fun _ => ⟨w.heap.size, 0, rfl, by simp, fun i hi => ?_⟩⟩
  rw [Nat.zero_add, cell_of_row _ _ i _ _ _ (heap_alloc_new w (.cells (ks.map fun (k : Int) => Value.int .u8 k).toArray t))]
  simp [hi]
def cntK (l : List In) (ks : List Int) : Nat := l.countP fun x => ks.contains x.kd
theorem okP_bad {l : List In} {k : Nat} (hk : k < l.length) (h : ¬ OkI l.length (nthI l k)) : ¬ OkP l := fun hp => h (hp.2 _ (nthI_mem l k hk))
section
variable {w : World}
theorem containsK_any {A : Option Addr} {ks : List Int} (cap : Nat) (hr : KRow w w.heap.size A ks) (hl : ks.length ≤ 140737488351232) (x : Int) :
    Calls Tryz.prog 35 #[.slice A ks.length cap, .int .u8 x] w fun e w' => e = .returned (.bool (ks.contains x)) ∧ w' = w := by
  by_cases h0 : 0 < ks.length
  · obtain ⟨b, off, rfl, hb, hc⟩ := hr.at_ h0
    have key := @AnyE.slices_Contains Tryz.prog L_containsK_ren Int _ L_containsK (Value.int .u8) _ (EqlAt.int _ _ .u8) b off ks.length cap ks x w (Nat.le_refl _) (by omega) (fun j hj => by
      rw [hc j hj]
      simp [hj])
    refine key.mono ?_
    rintro e w' ⟨rfl, rfl⟩
    refine ⟨?_, rfl⟩
    congr 2
    rw [List.take_length, Bool.eq_iff_iff, List.any_eq_true, List.contains_iff_mem]
    constructor
    · rintro ⟨y, hy, e⟩
      simp at e
      subst e
      exact hy
    · intro h
      exact ⟨x, h, by simp⟩
  · obtain rfl : ks = [] := List.eq_nil_of_length_eq_zero (by omega)
    exact @AnyE.slices_Contains_empty Tryz.prog L_containsK_ren L_containsK A cap (.int .u8 x) w
theorem containsO_any {A : Option Addr} {os : List Nat} (cap : Nat) (hr : ORow w A os) (hl : os.length ≤ 17592186044416) :
    Calls Tryz.prog 90 #[.slice A os.length cap, .int .i64 9] w fun e w' => e = .returned (.bool (os.contains 9)) ∧ w' = w := by
  by_cases h0 : 0 < os.length
  · obtain ⟨b, off, rfl, hb, hc⟩ := hr.at_ (by rw [opI_len]; exact h0)
    have key := @AnyE.slices_Contains Tryz.prog L_containsO_ren Int _ L_containsO (Value.int .i64) _ (EqlAt.int _ _ .i64) b off os.length cap (opI os) 9 w (by rw [opI_len]; omega) (by omega) (fun j hj => by
      rw [hc j hj]
      simp [hj])
    refine key.mono ?_
    rintro e w' ⟨rfl, rfl⟩
    refine ⟨?_, rfl⟩
    congr 2
    rw [List.take_of_length_le (by rw [opI_len]; omega), Bool.eq_iff_iff, List.any_eq_true, List.contains_iff_mem]
    constructor
    · rintro ⟨y, hy, e⟩
      simp only [opI, List.mem_map] at hy
      obtain ⟨z, hz, rfl⟩ := hy
      simp at e
      obtain rfl : z = 9 := by omega
      exact hz
    · intro h
      exact ⟨9, by simp only [opI, List.mem_map]; exact ⟨9, h, rfl⟩, by simp⟩
  · obtain rfl : os = [] := List.eq_nil_of_length_eq_zero (by omega)
    exact @AnyE.slices_Contains_empty Tryz.prog L_containsO_ren L_containsO A cap (.int .i64 9) w
set_option maxRecDepth 100000 in
set_option maxHeartbeats 4000000 in
theorem jumps_any (x : In) (hL : Lw w) : Calls Tryz.prog 73 #[.agg #[.int .u8 x.kd, .int .u8 x.op, .int .i64 x.oa, .int .i64 x.ob, .int .i64 x.fd, .int .i64 x.n, .int .u64 x.m, .int .u64 x.w, .int .i64 x.a, .int .i64 x.b, .int .i64 x.to]] w fun e w' => e = .returned (.bool (jumpsI x)) ∧ Below w.heap.size w w' := by
  have hj : jumpsI x = ((formOf x).getD fm0).os.contains 9 := by
    unfold jumpsI
    cases formOf x <;> rfl
  have hwf := formOf_wf x
  obtain ⟨b, f, hb, hf, hF⟩ : ∃ (b : Bool) (f : Fm), (formOf x).isSome = b ∧ (formOf x).getD fm0 = f ∧ Hid (∀ W, Lw W → Calls Tryz.prog 50 #[.agg #[.int .u8 x.kd, .int .u8 x.op, .int .i64 x.oa, .int .i64 x.ob, .int .i64 x.fd, .int .i64 x.n, .int .u64 x.m, .int .u64 x.w, .int .i64 x.a, .int .i64 x.b, .int .i64 x.to]] W fun e w' => e = .returned (.tuple #[.agg #[.string (bs f.nm), .int .u8 f.kd, .int .u8 f.op, .int .i64 (opn f 0), .int .i64 (opn f 1), .int .i64 (opn f 2)], .bool b]) ∧ Below W.heap.size W w') := ⟨_, _, rfl, rfl, Lib.hid fun W hL => formOf_any (w := W) x hL⟩
  rw [hj, hf]
  rw [hf] at hwf
  have HLI := Lib.hid fun (w : World) => list_agg (w := w) f hwf
  have HL3 := Lib.hid hwf.1
  have HC := Lib.hid fun (W : World) (A : Option Addr) (cap : Nat) (h : ORow W A f.os) => containsO_any (w := W) cap h (by have := hwf.1; omega)
  clear hwf hj hf hb
  generalize f.os.contains 9 = r at *
  go_enter Tryz.func73, Tryz.ntmps73
  go_wp2_with fail
  go_at_call 50
  refine (hF.out _ (hL.later (by repeat (first | exact Below.refl _ _ | assumption | (refine below_drewN ?_ _) | (refine Below.drew ?_) | (refine Below.alloc ?_ (by first | omega | (simp; omega) | simp) _) | (refine Below.setCell ?_ (by first | omega | (simp; omega) | simp) _) | (refine below_trans ?_ (by assumption) (by first | omega | (simp; omega) | simp)))))).mono ?_
  rintro e w1 ⟨rfl, hb_w1⟩
  obtain ⟨hc_w1, hf_w1⟩ := bcell hb_w1; have hz_w1_w_0 : w.heap.size < w1.heap.size := (by have hzz := hb_w1.size; (try simp only [World.size_alloc, World.size_setCell, World.size_drew, World.heap_drewN] at hzz); omega); have hs_w1 := hb_w1.size; (try simp only [World.size_alloc, World.size_setCell, World.size_drew, World.heap_drewN] at hs_w1)
  go_wp2_with fail
  go_at_call 52
  refine (HLI.out _).mono ?_
  rintro e w2 ⟨A, cap, rfl, ⟨hor, hab0⟩, hb_w2⟩
  obtain ⟨hc_w2, hf_w2⟩ := bcell hb_w2; have hz_w2_w1_0 : w1.heap.size < w2.heap.size := (by have hzz := hb_w2.size; (try simp only [World.size_alloc, World.size_setCell, World.size_drew, World.heap_drewN] at hzz); omega); have hs_w2 := hb_w2.size; (try simp only [World.size_alloc, World.size_setCell, World.size_drew, World.heap_drewN] at hs_w2)
  have hor2 := Lib.hid hor
  clear hor hab0
  go_wp2_with fail
  go_at_call 90
  refine (HC.out _ A cap hor2.out).mono ?_
  rintro e w3 ⟨rfl, rfl⟩
  go_wp2
  go_ret
  exact ⟨rfl, (by repeat (first | exact Below.refl _ _ | assumption | (refine below_drewN ?_ _) | (refine Below.drew ?_) | (refine Below.alloc ?_ (by first | omega | (simp; omega) | simp) _) | (refine Below.setCell ?_ (by first | omega | (simp; omega) | simp) _) | (refine below_trans ?_ (by assumption) (by first | omega | (simp; omega) | simp))))⟩
theorem valid_both (x : In) (c : Int) (hc0 : 0 ≤ c) (hc1 : c ≤ 256) (hx : InR x) : ∃ b : Bool, (b = true ↔ OkI c x) ∧ Hid (∀ W, Lw W → Calls Tryz.prog 30 #[.agg #[.int .u8 x.kd, .int .u8 x.op, .int .i64 x.oa, .int .i64 x.ob, .int .i64 x.fd, .int .i64 x.n, .int .u64 x.m, .int .u64 x.w, .int .i64 x.a, .int .i64 x.b, .int .i64 x.to], .int .i64 c] W fun e w' => e = .returned (.bool b) ∧ Below W.heap.size W w') := by
  classical
  exact ⟨decide (OkI c x), by simp, Lib.hid fun W hL => valid_any (w := W) x c hc0 hc1 hx hL _ (by simp)⟩
set_option maxRecDepth 100000 in
set_option maxHeartbeats 4000000 in
theorem check_any {A : Option Addr} {l : List In} (cap : Nat) (hr : PRow w w.heap.size A l) (hl : l.length ≤ 17592186044416) (hx : ∀ x ∈ l, InR x) (hL : Lw w) (y : Int) (hy : (OkP l ∧ y = 0) ∨ (¬ OkP l ∧ y = 2)) :
    Calls Tryz.prog 18 #[.slice A l.length cap] w fun e w' => e = .returned (.int .i64 y) ∧ Below w.heap.size w w' := by
  by_cases hlen : 256 < l.length
  · obtain rfl : y = 2 := by
      rcases hy with ⟨h, _⟩ | ⟨_, h⟩
      · exact absurd h.1 (by omega)
      · exact h
    have d1 : decide (256 < (l.length : Int)) = true := decide_eq_true (by omega)
    clear hy
    go_enter Tryz.func18, Tryz.ntmps18
    go_wp2
    go_ret
    exact ⟨rfl, (by repeat (first | exact Below.refl _ _ | assumption | (refine below_drewN ?_ _) | (refine Below.drew ?_) | (refine Below.alloc ?_ (by first | omega | (simp; omega) | simp) _) | (refine Below.setCell ?_ (by first | omega | (simp; omega) | simp) _) | (refine below_trans ?_ (by assumption) (by first | omega | (simp; omega) | simp))))⟩
  · have d1 : decide (256 < (l.length : Int)) = false := decide_eq_false (by omega)
    have hY := Lib.hid hy
    have HX := Lib.hid hx
    clear hy hx
    go_enter Tryz.func18, Tryz.ntmps18
    go_wp2_with fail
    go_loopw [10] (fun ii wr => ∃ k : Nat, ii = .int .i64 (k : Nat) ∧ k ≤ l.length ∧ Hid (∀ j, j < k → OkI l.length (nthI l j)) ∧ Below w.heap.size w wr) (fun ii _ => l.length - (intOf ii).toNat)
    case atStart => exact ⟨0, rfl, Nat.zero_le _, Lib.hid (fun j hj => by omega), (by repeat (first | exact Below.refl _ _ | assumption | (refine below_drewN ?_ _) | (refine Below.drew ?_) | (refine Below.alloc ?_ (by first | omega | (simp; omega) | simp) _) | (refine Below.setCell ?_ (by first | omega | (simp; omega) | simp) _) | (refine below_trans ?_ (by assumption) (by first | omega | (simp; omega) | simp))))⟩
    case round =>
      obtain ⟨k, rfl, hk, hG, hb_wr⟩ := hrel
      have hsr := hb_wr.size
      by_cases hlt : k < l.length
      · obtain ⟨b, off, rfl, hbb, hc⟩ := (hr.later hb_wr).at_ (by omega)
        have c5 := hc k hlt
        clear hc
        obtain ⟨vb, hvb, HV⟩ := valid_both (nthI l k) l.length (by omega) (by omega) (HX.out _ (nthI_mem l k hlt))
        have HVB := Lib.hid hvb
        have hk0 : (0 : Int) ≤ (k : Int) := by omega
        have hk1 : (k : Int) < (l.length : Int) := by omega
        clear hvb
        generalize hd : nthI l k = d at *
        have HD := Lib.hid hd
        clear hd
        obtain ⟨c0, c1, c2, c3, c4, c5, c6, c7, c8, c9, c10⟩ := c5
        go_wp2_with fail
        go_at_call 30
        refine (HV.out _ (hL.later (by repeat (first | exact Below.refl _ _ | assumption | (refine below_drewN ?_ _) | (refine Below.drew ?_) | (refine Below.alloc ?_ (by first | omega | (simp; omega) | simp) _) | (refine Below.setCell ?_ (by first | omega | (simp; omega) | simp) _) | (refine below_trans ?_ (by assumption) (by first | omega | (simp; omega) | simp)))))).mono ?_
        rintro e w2 ⟨rfl, hb_w2⟩
        obtain ⟨hc_w2, hf_w2⟩ := bcell hb_w2; have hz_w2_wr_0 : wr.heap.size < w2.heap.size := (by have hzz := hb_w2.size; (try simp only [World.size_alloc, World.size_setCell, World.size_drew, World.heap_drewN] at hzz); omega); have hs_w2 := hb_w2.size; (try simp only [World.size_alloc, World.size_setCell, World.size_drew, World.heap_drewN] at hs_w2)
        cases vb with
        | true =>
          have HG2 : Hid (∀ j, j < k + 1 → OkI l.length (nthI l j)) := Lib.hid fun j hj => by
            by_cases e : j = k
            · rw [e, HD.out]; exact HVB.out.1 rfl
            · exact hG.out j (by omega)
          go_wp2
          go_roundw
          case rel => exact ⟨k + 1, by go_num, by omega, HG2, (by repeat (first | exact Below.refl _ _ | assumption | (refine below_drewN ?_ _) | (refine Below.drew ?_) | (refine Below.alloc ?_ (by first | omega | (simp; omega) | simp) _) | (refine Below.setCell ?_ (by first | omega | (simp; omega) | simp) _) | (refine below_trans ?_ (by assumption) (by first | omega | (simp; omega) | simp))))⟩
          case measure => simp [intOf]; omega
        | false =>
          obtain rfl : y = 2 := by
            rcases hY.out with ⟨h, _⟩ | ⟨_, h⟩
            · have h9 := h.2 _ (nthI_mem l k hlt)
              rw [HD.out] at h9
              have := HVB.out.2 h9
              cases this
            · exact h
          go_wp2
          go_ret
          exact ⟨rfl, (by repeat (first | exact Below.refl _ _ | assumption | (refine below_drewN ?_ _) | (refine Below.drew ?_) | (refine Below.alloc ?_ (by first | omega | (simp; omega) | simp) _) | (refine Below.setCell ?_ (by first | omega | (simp; omega) | simp) _) | (refine below_trans ?_ (by assumption) (by first | omega | (simp; omega) | simp))))⟩
      · obtain rfl : k = l.length := by omega
        obtain rfl : y = 0 := by
          rcases hY.out with ⟨_, h⟩ | ⟨h, _⟩
          · exact h
          · refine absurd ⟨by omega, fun x hx => ?_⟩ h
            obtain ⟨j, hj, rfl⟩ := List.getElem_of_mem hx
            rw [← nthI_get l j hj]
            exact hG.out j hj
        go_wp2
        go_ret
        exact ⟨rfl, (by repeat (first | exact Below.refl _ _ | assumption | (refine below_drewN ?_ _) | (refine Below.drew ?_) | (refine Below.alloc ?_ (by first | omega | (simp; omega) | simp) _) | (refine Below.setCell ?_ (by first | omega | (simp; omega) | simp) _) | (refine below_trans ?_ (by assumption) (by first | omega | (simp; omega) | simp))))⟩
set_option maxRecDepth 100000 in
set_option maxHeartbeats 4000000 in
theorem count_any {A K : Option Addr} {l : List In} {ks : List Int} (cap kcap : Nat) (hr : PRow w w.heap.size A l) (hl : l.length ≤ 17592186044416) (hx : ∀ x ∈ l, InR x) (hK : KRow w w.heap.size K ks) (hkl : ks.length ≤ 140737488351232) (hL : Lw w) (n y : Int) (hy : (OkP l ∧ y = 0 ∧ n = cntK l ks) ∨ (¬ OkP l ∧ y = 2 ∧ n = 0)) :
    Calls Tryz.prog 16 #[.slice A l.length cap, .slice K ks.length kcap] w fun e w' => e = .returned (.tuple #[.int .i64 n, .int .i64 y]) ∧ Below w.heap.size w w' := by
  have HC := Lib.hid fun (W : World) (h : PRow W W.heap.size A l) hL => check_any (w := W) cap h hl hx hL y (hy.imp (fun h => ⟨h.1, h.2.1⟩) (fun h => ⟨h.1, h.2.1⟩))
  have HK := Lib.hid fun (W : World) (h : KRow W W.heap.size K ks) x => containsK_any (w := W) kcap h hkl x
  rcases hy with ⟨_, rfl, rfl⟩ | ⟨_, rfl, rfl⟩
  · have HT := Lib.hid fun k (hk : k < l.length) => take_nthI l k hk
    have HN : Hid (cntK (l.take l.length) ks = cntK l ks) := Lib.hid (by rw [List.take_length])
    clear hx
    go_enter Tryz.func16, Tryz.ntmps16
    go_wp2_with fail
    go_at_call 18
    refine (HC.out _ hr hL).mono ?_
    rintro e w1 ⟨rfl, hb_w1⟩
    obtain ⟨hc_w1, hf_w1⟩ := bcell hb_w1; have hs_w1 := hb_w1.size; (try simp only [World.size_alloc, World.size_setCell, World.size_drew, World.heap_drewN] at hs_w1)
    go_wp2_with fail
    go_loopw [7, 17] (fun nn ii wr => ∃ k : Nat, ii = .int .i64 (k : Nat) ∧ nn = .int .i64 (cntK (l.take k) ks : Nat) ∧ cntK (l.take k) ks ≤ k ∧ k ≤ l.length ∧ Below w.heap.size w wr) (fun nn ii _ => l.length - (intOf ii).toNat)
    case atStart => exact ⟨0, rfl, rfl, Nat.le_refl _, Nat.zero_le _, (by repeat (first | exact Below.refl _ _ | assumption | (refine below_drewN ?_ _) | (refine Below.drew ?_) | (refine Below.alloc ?_ (by first | omega | (simp; omega) | simp) _) | (refine Below.setCell ?_ (by first | omega | (simp; omega) | simp) _) | (refine below_trans ?_ (by assumption) (by first | omega | (simp; omega) | simp))))⟩
    case round =>
      obtain ⟨k, rfl, rfl, hn, hk, hb_wr⟩ := hrel
      have hsr := hb_wr.size
      by_cases hlt : k < l.length
      · obtain ⟨b, off, rfl, hbb, hc⟩ := (hr.later hb_wr).at_ (by omega)
        have c5 := hc k hlt
        clear hc
        have hk0 : (0 : Int) ≤ (k : Int) := by omega
        have hk1 : (k : Int) < (l.length : Int) := by omega
        have hnx : cntK (l.take (k + 1)) ks = cntK (l.take k) ks + if ks.contains (nthI l k).kd then 1 else 0 := by
          rw [HT.out k hlt]
          unfold cntK
          rw [List.countP_append, List.countP_cons, List.countP_nil, Nat.zero_add]
        have HX := Lib.hid hnx
        clear hnx
        generalize hd : nthI l k = d at *
        clear hd
        generalize cntK (l.take k) ks = N at *
        obtain ⟨c0, c1, c2, c3, c4, c5, c6, c7, c8, c9, c10⟩ := c5
        go_wp2_with fail
        go_at_call 35
        refine (HK.out _ (hK.later (by repeat (first | exact Below.refl _ _ | assumption | (refine below_drewN ?_ _) | (refine Below.drew ?_) | (refine Below.alloc ?_ (by first | omega | (simp; omega) | simp) _) | (refine Below.setCell ?_ (by first | omega | (simp; omega) | simp) _) | (refine below_trans ?_ (by assumption) (by first | omega | (simp; omega) | simp))))) _).mono ?_
        rintro e w2 ⟨rfl, rfl⟩
        cases hq : ks.contains d.kd with
        | true =>
          rw [hq] at HX
          go_wp2
          go_roundw
          case rel => exact ⟨k + 1, by go_num, by rw [HX.out]; go_num, by rw [HX.out]; simp; omega, by omega, (by repeat (first | exact Below.refl _ _ | assumption | (refine below_drewN ?_ _) | (refine Below.drew ?_) | (refine Below.alloc ?_ (by first | omega | (simp; omega) | simp) _) | (refine Below.setCell ?_ (by first | omega | (simp; omega) | simp) _) | (refine below_trans ?_ (by assumption) (by first | omega | (simp; omega) | simp))))⟩
          case measure => simp [intOf]; omega
        | false =>
          rw [hq] at HX
          go_wp2
          go_roundw
          case rel => exact ⟨k + 1, by go_num, by rw [HX.out]; rfl, by rw [HX.out]; simp; omega, by omega, (by repeat (first | exact Below.refl _ _ | assumption | (refine below_drewN ?_ _) | (refine Below.drew ?_) | (refine Below.alloc ?_ (by first | omega | (simp; omega) | simp) _) | (refine Below.setCell ?_ (by first | omega | (simp; omega) | simp) _) | (refine below_trans ?_ (by assumption) (by first | omega | (simp; omega) | simp))))⟩
          case measure => simp [intOf]; omega
      · obtain rfl : k = l.length := by omega
        go_wp2
        go_ret2
        rw [← HN.out]
        exact ⟨rfl, (by repeat (first | exact Below.refl _ _ | assumption | (refine below_drewN ?_ _) | (refine Below.drew ?_) | (refine Below.alloc ?_ (by first | omega | (simp; omega) | simp) _) | (refine Below.setCell ?_ (by first | omega | (simp; omega) | simp) _) | (refine below_trans ?_ (by assumption) (by first | omega | (simp; omega) | simp))))⟩
  · clear hx
    go_enter Tryz.func16, Tryz.ntmps16
    go_wp2_with fail
    go_at_call 18
    refine (HC.out _ hr hL).mono ?_
    rintro e w1 ⟨rfl, hb_w1⟩
    obtain ⟨hc_w1, hf_w1⟩ := bcell hb_w1; have hs_w1 := hb_w1.size; (try simp only [World.size_alloc, World.size_setCell, World.size_drew, World.heap_drewN] at hs_w1)
    go_wp2
    go_ret2
    exact ⟨rfl, (by repeat (first | exact Below.refl _ _ | assumption | (refine below_drewN ?_ _) | (refine Below.drew ?_) | (refine Below.alloc ?_ (by first | omega | (simp; omega) | simp) _) | (refine Below.setCell ?_ (by first | omega | (simp; omega) | simp) _) | (refine below_trans ?_ (by assumption) (by first | omega | (simp; omega) | simp))))⟩
end
end Go.Proofs.YtggaijdbaplfiaaGreatDoor
