/- Contracts of the document's package: Print, Line. -/
import Derived.Test.YtggaijdbaplfiaaGreatDoorAs43
import Derived.Deep.RegionHeld3
namespace Go.Proofs.YtggaijdbaplfiaaGreatDoor
open Go.RowKit
set_option linter.unusedVariables false
set_option linter.unusedSimpArgs false
def PrT (l : List In) (k : Nat) : List UInt8 := if k ≤ l.length then prG (goalsL l) l k else printP l
theorem prT_next {l : List In} {k : Nat} (hk : k < l.length) : PrT l (k + 1) = (PrT l k ++ lblG (goalsL l) k) ++ (lineI (nthI l k) (labG (goalsL l) (nthI l k).to) ++ [10]) := by
  unfold PrT
  rw [if_pos (by omega), if_pos (by omega), prG_succ, List.append_assoc]
theorem prT_last (l : List In) : PrT l (l.length + 1) = PrT l l.length ++ lblG (goalsL l) l.length := by
  unfold PrT
  rw [if_neg (by omega), if_pos (by omega)]
  rfl
theorem prT_len (l : List In) (k : Nat) (hk : k ≤ l.length) : (PrT l k).length ≤ k * 5000 := by
  unfold PrT
  rw [if_pos hk]
  exact prG_len _ _ _
theorem lblG_cat (T : List UInt8) (g : List Int) (p : Int) : bs (T ++ lblG g p) = if labG g p = [] then bs T else bs T ++ (bs (labG g p) ++ (⟨#[58, 10]⟩ : ByteArray)) := by
  rw [lblG_eq]
  split
  · rw [List.append_nil]
  · rw [show (⟨#[58, 10]⟩ : ByteArray) = bs [58, 10] from rfl, bs_append, bs_append]
theorem line_cat (T L : List UInt8) : bs T ++ (bs L ++ (⟨#[10]⟩ : ByteArray)) = bs (T ++ (L ++ [10])) := by
  rw [show (⟨#[10]⟩ : ByteArray) = bs [10] from rfl, bs_append, bs_append]
section
variable {w : World}
set_option maxRecDepth 100000 in
set_option maxHeartbeats 16000000 in
theorem xprintP_any {A : Option Addr} {l : List In} (cap : Nat) (hr : PRow w w.heap.size A l) (hl : l.length ≤ 17592186044416) (hx : ∀ x ∈ l, OpB x) :
    Calls Tryz.prog 13 #[.slice A l.length cap] w fun e w' => PrintR w l e w' := by
  unfold PrintR
  by_cases hok : OkP l
  · have HC := Lib.hid fun (w : World) hr => xcheckP_any (w := w) (A := A) (l := l) cap hr hl hx 0 (.inl ⟨hok, rfl⟩)
    have h256 := hok.1
    have HB := Lib.hid fun (W : World) (h : PRow W W.heap.size A l) (p : Nat) (hp : p ≤ 256) => (by
      have := xlabel_any (w := W) cap h h256 hx p hp
      rw [lbD_eq hok p] at this
      exact this : Calls Tryz.prog 28 #[.slice A l.length cap, .int .i64 (p : Nat)] W fun e w' => e = .returned (.string (bs (labG (goalsL l) (p : Int)))) ∧ Below W.heap.size W w')
    have HLN := Lib.hid fun (W : World) k (hk : k < l.length) lb hlb => (by
      have hm := nthI_mem l k hk
      have := xline_any (w := W) (nthI l k) lb hlb (hx _ hm).o0 (hx _ hm).o1 (OkI.rng (hok.2 _ hm) (by omega))
      rw [lineD_I (hok.2 _ hm) lb] at this
      exact this : Calls Tryz.prog 29 #[inv (nthI l k), .string (bs lb)] W fun e w' => e = .returned (.string (bs (lineI (nthI l k) lb))) ∧ Below W.heap.size W w')
    have HTO := Lib.hid fun k (hk : k < l.length) => to_in (hok.2 _ (nthI_mem l k hk)) (by omega)
    have HPN := Lib.hid fun k (hk : k < l.length) => @prT_next l k hk
    have HPL := Lib.hid (prT_last l)
    have HTL := Lib.hid fun k hk => prT_len l k hk
    have HLL := Lib.hid fun p => labG_len (goalsL l) p
    have HII := Lib.hid fun x lb hlb => lineI_len x lb hlb
    have HCT := Lib.hid fun T p => lblG_cat T (goalsL l) p
    have HLC := Lib.hid fun T L => line_cat T L
    have HBL := Lib.hid fun p => lblG_len (goalsL l) p
    have HP0 : Hid (bs [] = bs (PrT l 0)) := Lib.hid (by unfold PrT prG; simp)
    have HPE : Hid (PrT l (l.length + 1) = printP l) := Lib.hid (by unfold PrT; rw [if_neg (by omega)])
    have HOK := Lib.hid hok
    clear hok hx
    generalize PrT l = T at *
    generalize goalsL l = g at *
    go_enter Tryz.func13, Tryz.ntmps13
    go_wp2_with fail
    go_at_call 19
    refine (HC.out _ (hr.later (by repeat (first | exact Below.refl _ _ | assumption | (refine below_drewN ?_ _) | (refine Below.drew ?_) | (refine Below.alloc ?_ (by first | omega | (simp; omega) | simp) _) | (refine Below.setCell ?_ (by first | omega | (simp; omega) | simp) _) | (refine below_trans ?_ (by assumption) (by first | omega | (simp; omega) | simp)))))).mono ?_
    rintro e w1 ⟨rfl, hb_w1⟩
    obtain ⟨hc_w1, hf_w1⟩ := bcell hb_w1; have hs_w1 := hb_w1.size; (try simp only [World.size_alloc, World.size_setCell, World.size_drew, World.heap_drewN] at hs_w1)
    go_wp2_with fail
    go_loopw [4, 5] (fun ss ii wr => ∃ k : Nat, ss = .string (bs (T k)) ∧ ii = .int .i64 (k : Nat) ∧ k ≤ l.length + 1 ∧ Below w.heap.size w wr) (fun ss ii _ => l.length + 1 - (intOf ii).toNat)
    case atStart => exact ⟨0, by rw [← HP0.out]; rfl, rfl, Nat.zero_le _, hb_w1⟩
    case round =>
      clear hb_w1 hc_w1 hf_w1 hs_w1
      obtain ⟨k, rfl, rfl, hk, hb_wr⟩ := hrel
      have hsr := hb_wr.size
      by_cases hle : k ≤ l.length
      · have d1 : decide ((k : Int) ≤ (l.length : Int)) = true := decide_eq_true (by omega)
        have d1n : decide (k ≤ l.length) = true := decide_eq_true hle
        have hTk := HTL.out k hle
        have hBk := HLL.out (k : Int)
        have hC2 := HCT.out (T k) (k : Int)
        have hLBL := HBL.out (k : Int)
        have HT1 : Hid ((bs (T k ++ lblG g (k : Int))).size ≤ 1290000) := Lib.hid (by rw [bs_size, List.length_append]; omega)
        have HT0 : (bs (T k)).size ≤ 1290000 := by rw [bs_size]; omega
        have HZ : (bs (labG g (k : Int))).size ≤ 21 := by rw [bs_size]; exact hBk
        have HBK := Lib.hid fun (W : World) h => HB.out W h k (by omega)
        generalize hSL : labG g (k : Int) = lb0 at *
        clear hSL hBk hTk hLBL
        have HMID := Lib.hid hC2
        clear hC2
        by_cases hlt : k < l.length
        · have d2 : decide ((k : Int) < (l.length : Int)) = true := decide_eq_true (by omega)
          have d2n : decide (k < l.length) = true := decide_eq_true hlt
          have hto := HTO.out k hlt
          have hk0 : (0 : Int) ≤ (k : Int) := by omega
          have hk1 : (k : Int) < (l.length : Int) := by omega
          have HBT : Hid (∀ W, PRow W W.heap.size A l → Calls Tryz.prog 28 #[.slice A l.length cap, .int .i64 (nthI l k).to] W fun e w' => e = .returned (.string (bs (labG g (nthI l k).to))) ∧ Below W.heap.size W w') := Lib.hid (fun W h => by
            have := HB.out W h (nthI l k).to.toNat (by omega)
            rw [Int.toNat_of_nonneg hto.1] at this
            exact this)
          have hbl2 := HLL.out (nthI l k).to
          have HLK := Lib.hid fun (W : World) => HLN.out W k hlt (labG g (nthI l k).to) (by omega)
          have hil := HII.out (nthI l k) (labG g (nthI l k).to) (by omega)
          have hcat := HLC.out (T k ++ lblG g (k : Int)) (lineI (nthI l k) (labG g (nthI l k).to))
          rw [← HPN.out k hlt] at hcat
          have HCAT := Lib.hid hcat
          clear hcat
          have HZ3 : (bs (lineI (nthI l k) (labG g (nthI l k).to))).size ≤ 4100 := by rw [bs_size]; exact hil
          clear hil hbl2 hto
          generalize bs (labG g (nthI l k).to) = LB2 at *
          generalize bs (lineI (nthI l k) (labG g (nthI l k).to)) = LI at *
          generalize hd : nthI l k = d at *
          have HD : Hid (nthI l k = d) := Lib.hid hd
          clear hd
          unfold inv at HLK
          generalize bs (T k ++ lblG g (k : Int)) = S1 at *
          generalize bs (T k) = S0 at *
          have hS1 := HT1.out
          have hz9 : ¬ (9223372036854775807 < LI.size + 1) := by omega
          have hz8 : ¬ (9223372036854775807 < S1.size + (LI.size + 1)) := by omega
          clear hS1
          go_wp2_with fail
          go_at_call 28
          refine (HBK.out _ (hr.later (by repeat (first | exact Below.refl _ _ | assumption | (refine below_drewN ?_ _) | (refine Below.drew ?_) | (refine Below.alloc ?_ (by first | omega | (simp; omega) | simp) _) | (refine Below.setCell ?_ (by first | omega | (simp; omega) | simp) _) | (refine below_trans ?_ (by assumption) (by first | omega | (simp; omega) | simp)))))).mono ?_
          rintro e w2 ⟨rfl, hb_w2⟩
          obtain ⟨hc_w2, hf_w2⟩ := bcell hb_w2; have hs_w2 := hb_w2.size; (try simp only [World.size_alloc, World.size_setCell, World.size_drew, World.heap_drewN] at hs_w2)
          have b2 : Below w.heap.size w w2 := (by repeat (first | exact Below.refl _ _ | assumption | (refine below_drewN ?_ _) | (refine Below.drew ?_) | (refine Below.alloc ?_ (by first | omega | (simp; omega) | simp) _) | (refine Below.setCell ?_ (by first | omega | (simp; omega) | simp) _) | (refine below_trans ?_ (by assumption) (by first | omega | (simp; omega) | simp))))
          have g2 : w.heap.size ≤ w2.heap.size := by omega
          have HR2 := Lib.hid ((hr.later b2).at_ (by omega))
          clear hc_w2 hf_w2
          by_cases h0 : lb0 = []
          · have hm := HMID.out
            rw [if_pos h0] at hm
            subst h0
            subst hm
            have e1 : (bs []).toList.isEmpty = true := by rw [ByteArray.toList_eq, bs_data]; rfl
            have e2 : ((bs []).toList == []) = true := by rw [ByteArray.toList_eq, bs_data]; rfl
            clear HMID
            obtain ⟨b, off, rfl, hbb, hc⟩ := HR2.out
            have c5 := hc k hlt
            rw [HD.out] at c5
            clear hc HR2
            obtain ⟨c0, c1, c2, c3, c4, c5, c6, c7, c8, c9, c10⟩ := c5
            go_upto_region 11 with (fail)
            refine wp_region_held_drew (S := (fun X : World => X.cell? ⟨b, off + k * 11, none⟩ = some (.int .u8 d.kd) ∧ X.cell? ⟨b, off + k * 11 + 1, none⟩ = some (.int .u8 d.op) ∧ X.cell? ⟨b, off + k * 11 + 2, none⟩ = some (.int .i64 d.oa) ∧ X.cell? ⟨b, off + k * 11 + 3, none⟩ = some (.int .i64 d.ob) ∧ X.cell? ⟨b, off + k * 11 + 4, none⟩ = some (.int .i64 d.fd) ∧ X.cell? ⟨b, off + k * 11 + 5, none⟩ = some (.int .i64 d.n) ∧ X.cell? ⟨b, off + k * 11 + 6, none⟩ = some (.int .u64 d.m) ∧ X.cell? ⟨b, off + k * 11 + 7, none⟩ = some (.int .u64 d.w) ∧ X.cell? ⟨b, off + k * 11 + 8, none⟩ = some (.int .i64 d.a) ∧ X.cell? ⟨b, off + k * 11 + 9, none⟩ = some (.int .i64 d.b) ∧ X.cell? ⟨b, off + k * 11 + 10, none⟩ = some (.int .i64 d.to))) (by kernel_rfl) ?_ (fun hHeld => ?_)
            · (try dsimp only); refine ⟨?_, ?_, ?_, ?_, ?_, ?_, ?_, ?_, ?_, ?_, ?_⟩ <;> first | assumption | (simp [go_sem]; done) | exact (World.cell?_alloc_lt _ _ ⟨_, _, _⟩ (by first | omega | (simp; omega) | simp)).trans (by assumption)
            refine wpAnyH_take (i := 0) (v := ?_) rfl (by kernel_rfl) (by kernel_rfl) (by kernel_rfl) (fun _ _ _ h => h) (Or.inl ⟨by rfl, ?_⟩) (by assumption) ?_
            rotate_left
            · (intro w hSw; (try dsimp only at hSw); go_simp; first | done | with_reducible rfl)
            try simp only [Act.put, List.getElem_toArray, List.getElem_cons_zero, List.getElem_cons_succ, List.setIfInBounds_toArray, List.set_cons_zero, List.set_cons_succ]
            refine wpAnyH_take (i := 1) (v := ?_) rfl (by kernel_rfl) (by kernel_rfl) (by kernel_rfl) (fun _ _ _ h => h) (Or.inl ⟨by rfl, ?_⟩) (by assumption) ?_
            rotate_left
            · (intro w hSw; (try dsimp only at hSw); go_simp; first | done | with_reducible rfl)
            try simp only [Act.put, List.getElem_toArray, List.getElem_cons_zero, List.getElem_cons_succ, List.setIfInBounds_toArray, List.set_cons_zero, List.set_cons_succ]
            refine wpAnyH_take (i := 2) (v := ?_) rfl (by kernel_rfl) (by kernel_rfl) (by kernel_rfl) (fun _ _ _ h => h) (Or.inl ⟨by rfl, ?_⟩) (by assumption) ?_
            rotate_left
            · (intro w hSw; (try dsimp only at hSw); go_simp; first | done | with_reducible rfl)
            try simp only [Act.put, List.getElem_toArray, List.getElem_cons_zero, List.getElem_cons_succ, List.setIfInBounds_toArray, List.set_cons_zero, List.set_cons_succ]
            refine wpAnyH_take (i := 3) (v := ?_) rfl (by kernel_rfl) (by kernel_rfl) (by kernel_rfl) (fun _ _ _ h => h) (Or.inl ⟨by rfl, ?_⟩) (by assumption) ?_
            rotate_left
            · (intro w hSw; (try dsimp only at hSw); go_simp; first | done | with_reducible rfl)
            try simp only [Act.put, List.getElem_toArray, List.getElem_cons_zero, List.getElem_cons_succ, List.setIfInBounds_toArray, List.set_cons_zero, List.set_cons_succ]
            refine wpAnyH_take (i := 4) (v := ?_) rfl (by kernel_rfl) (by kernel_rfl) (by kernel_rfl) (fun _ _ _ h => h) (Or.inl ⟨by rfl, ?_⟩) (by assumption) ?_
            rotate_left
            · (intro w hSw; (try dsimp only at hSw); go_simp; first | done | with_reducible rfl)
            try simp only [Act.put, List.getElem_toArray, List.getElem_cons_zero, List.getElem_cons_succ, List.setIfInBounds_toArray, List.set_cons_zero, List.set_cons_succ]
            refine wpAnyH_take (i := 5) (v := ?_) rfl (by kernel_rfl) (by kernel_rfl) (by kernel_rfl) (fun _ _ _ h => h) (Or.inl ⟨by rfl, ?_⟩) (by assumption) ?_
            rotate_left
            · (intro w hSw; (try dsimp only at hSw); go_simp; first | done | with_reducible rfl)
            try simp only [Act.put, List.getElem_toArray, List.getElem_cons_zero, List.getElem_cons_succ, List.setIfInBounds_toArray, List.set_cons_zero, List.set_cons_succ]
            refine wpAnyH_take (i := 6) (v := ?_) rfl (by kernel_rfl) (by kernel_rfl) (by kernel_rfl) (fun _ _ _ h => h) (Or.inl ⟨by rfl, ?_⟩) (by assumption) ?_
            rotate_left
            · (intro w hSw; (try dsimp only at hSw); go_simp; first | done | with_reducible rfl)
            try simp only [Act.put, List.getElem_toArray, List.getElem_cons_zero, List.getElem_cons_succ, List.setIfInBounds_toArray, List.set_cons_zero, List.set_cons_succ]
            refine wpAnyH_take (i := 7) (v := ?_) rfl (by kernel_rfl) (by kernel_rfl) (by kernel_rfl) (fun _ _ _ h => h) (Or.inl ⟨by rfl, ?_⟩) (by assumption) ?_
            rotate_left
            · (intro w hSw; (try dsimp only at hSw); go_simp; first | done | with_reducible rfl)
            try simp only [Act.put, List.getElem_toArray, List.getElem_cons_zero, List.getElem_cons_succ, List.setIfInBounds_toArray, List.set_cons_zero, List.set_cons_succ]
            refine wpAnyH_take (i := 8) (v := ?_) rfl (by kernel_rfl) (by kernel_rfl) (by kernel_rfl) (fun _ _ _ h => h) (Or.inl ⟨by rfl, ?_⟩) (by assumption) ?_
            rotate_left
            · (intro w hSw; (try dsimp only at hSw); go_simp; first | done | with_reducible rfl)
            try simp only [Act.put, List.getElem_toArray, List.getElem_cons_zero, List.getElem_cons_succ, List.setIfInBounds_toArray, List.set_cons_zero, List.set_cons_succ]
            refine wpAnyH_take (i := 9) (v := ?_) rfl (by kernel_rfl) (by kernel_rfl) (by kernel_rfl) (fun _ _ _ h => h) (Or.inl ⟨by rfl, ?_⟩) (by assumption) ?_
            rotate_left
            · (intro w hSw; (try dsimp only at hSw); go_simp; first | done | with_reducible rfl)
            try simp only [Act.put, List.getElem_toArray, List.getElem_cons_zero, List.getElem_cons_succ, List.setIfInBounds_toArray, List.set_cons_zero, List.set_cons_succ]
            refine wpAnyH_take (i := 10) (v := ?_) rfl (by kernel_rfl) (by kernel_rfl) (by kernel_rfl) (fun _ _ _ h => h) (Or.inl ⟨by rfl, ?_⟩) (by assumption) ?_
            rotate_left
            · (intro w hSw; (try dsimp only at hSw); go_simp; first | done | with_reducible rfl)
            try simp only [Act.put, List.getElem_toArray, List.getElem_cons_zero, List.getElem_cons_succ, List.setIfInBounds_toArray, List.set_cons_zero, List.set_cons_succ]
            refine wpAnyH_ready (rs := [11]) (by kernel_rfl) (by simp) ?_
            refine AllReadyH.cons rfl (fun K hK => ?_) AllReadyH.nil
            try simp only [List.getElem_toArray, List.getElem_cons_zero, List.getElem_cons_succ]
            go_simp
            go_at_call 28
            refine (HBT.out _ (hr.later (by repeat (first | exact Below.refl _ _ | assumption | (refine below_drewN ?_ _) | (refine Below.drew ?_) | (refine Below.alloc ?_ (by first | omega | (simp; omega) | simp) _) | (refine Below.setCell ?_ (by first | omega | (simp; omega) | simp) _) | (refine below_trans ?_ (by assumption) (by first | omega | (simp; omega) | simp)))))).mono ?_
            rintro e w3 ⟨rfl, hb_w3⟩
            have hs3 := hb_w3.size
            (try simp only [World.size_alloc, World.size_setCell, World.size_drew, World.heap_drewN] at hs3)
            have mw30 : w3.cell? ⟨b, off + k * 11, none⟩ = some (.int .u8 d.kd) := (hb_w3.cell (p := ⟨b, off + k * 11, none⟩) (by first | omega | (simp; omega) | simp)).trans (by first | assumption | (simp [go_sem]; done) | exact (World.cell?_alloc_lt _ _ ⟨_, _, _⟩ (by first | omega | (simp; omega) | simp)).trans (by assumption))
            have mw31 : w3.cell? ⟨b, off + k * 11 + 1, none⟩ = some (.int .u8 d.op) := (hb_w3.cell (p := ⟨b, off + k * 11 + 1, none⟩) (by first | omega | (simp; omega) | simp)).trans (by first | assumption | (simp [go_sem]; done) | exact (World.cell?_alloc_lt _ _ ⟨_, _, _⟩ (by first | omega | (simp; omega) | simp)).trans (by assumption))
            have mw32 : w3.cell? ⟨b, off + k * 11 + 2, none⟩ = some (.int .i64 d.oa) := (hb_w3.cell (p := ⟨b, off + k * 11 + 2, none⟩) (by first | omega | (simp; omega) | simp)).trans (by first | assumption | (simp [go_sem]; done) | exact (World.cell?_alloc_lt _ _ ⟨_, _, _⟩ (by first | omega | (simp; omega) | simp)).trans (by assumption))
            have mw33 : w3.cell? ⟨b, off + k * 11 + 3, none⟩ = some (.int .i64 d.ob) := (hb_w3.cell (p := ⟨b, off + k * 11 + 3, none⟩) (by first | omega | (simp; omega) | simp)).trans (by first | assumption | (simp [go_sem]; done) | exact (World.cell?_alloc_lt _ _ ⟨_, _, _⟩ (by first | omega | (simp; omega) | simp)).trans (by assumption))
            have mw34 : w3.cell? ⟨b, off + k * 11 + 4, none⟩ = some (.int .i64 d.fd) := (hb_w3.cell (p := ⟨b, off + k * 11 + 4, none⟩) (by first | omega | (simp; omega) | simp)).trans (by first | assumption | (simp [go_sem]; done) | exact (World.cell?_alloc_lt _ _ ⟨_, _, _⟩ (by first | omega | (simp; omega) | simp)).trans (by assumption))
            have mw35 : w3.cell? ⟨b, off + k * 11 + 5, none⟩ = some (.int .i64 d.n) := (hb_w3.cell (p := ⟨b, off + k * 11 + 5, none⟩) (by first | omega | (simp; omega) | simp)).trans (by first | assumption | (simp [go_sem]; done) | exact (World.cell?_alloc_lt _ _ ⟨_, _, _⟩ (by first | omega | (simp; omega) | simp)).trans (by assumption))
            have mw36 : w3.cell? ⟨b, off + k * 11 + 6, none⟩ = some (.int .u64 d.m) := (hb_w3.cell (p := ⟨b, off + k * 11 + 6, none⟩) (by first | omega | (simp; omega) | simp)).trans (by first | assumption | (simp [go_sem]; done) | exact (World.cell?_alloc_lt _ _ ⟨_, _, _⟩ (by first | omega | (simp; omega) | simp)).trans (by assumption))
            have mw37 : w3.cell? ⟨b, off + k * 11 + 7, none⟩ = some (.int .u64 d.w) := (hb_w3.cell (p := ⟨b, off + k * 11 + 7, none⟩) (by first | omega | (simp; omega) | simp)).trans (by first | assumption | (simp [go_sem]; done) | exact (World.cell?_alloc_lt _ _ ⟨_, _, _⟩ (by first | omega | (simp; omega) | simp)).trans (by assumption))
            have mw38 : w3.cell? ⟨b, off + k * 11 + 8, none⟩ = some (.int .i64 d.a) := (hb_w3.cell (p := ⟨b, off + k * 11 + 8, none⟩) (by first | omega | (simp; omega) | simp)).trans (by first | assumption | (simp [go_sem]; done) | exact (World.cell?_alloc_lt _ _ ⟨_, _, _⟩ (by first | omega | (simp; omega) | simp)).trans (by assumption))
            have mw39 : w3.cell? ⟨b, off + k * 11 + 9, none⟩ = some (.int .i64 d.b) := (hb_w3.cell (p := ⟨b, off + k * 11 + 9, none⟩) (by first | omega | (simp; omega) | simp)).trans (by first | assumption | (simp [go_sem]; done) | exact (World.cell?_alloc_lt _ _ ⟨_, _, _⟩ (by first | omega | (simp; omega) | simp)).trans (by assumption))
            have mw310 : w3.cell? ⟨b, off + k * 11 + 10, none⟩ = some (.int .i64 d.to) := (hb_w3.cell (p := ⟨b, off + k * 11 + 10, none⟩) (by first | omega | (simp; omega) | simp)).trans (by first | assumption | (simp [go_sem]; done) | exact (World.cell?_alloc_lt _ _ ⟨_, _, _⟩ (by first | omega | (simp; omega) | simp)).trans (by assumption))
            try go_wp2_with fail
            refine hK.out _ _ ?_ (fun hHeld => ?_)
            · (try dsimp only); refine ⟨?_, ?_, ?_, ?_, ?_, ?_, ?_, ?_, ?_, ?_, ?_⟩ <;> first | assumption | (simp [go_sem]; done) | exact (World.cell?_alloc_lt _ _ ⟨_, _, _⟩ (by first | omega | (simp; omega) | simp)).trans (by assumption)
            clear hK K
            try simp only [Act.put, List.getElem_toArray, List.getElem_cons_zero, List.getElem_cons_succ, List.setIfInBounds_toArray, List.set_cons_zero, List.set_cons_succ]
            refine wpAnyH_ready (rs := [12]) (by kernel_rfl) (by simp) ?_
            refine AllReadyH.cons rfl (fun K hK => ?_) AllReadyH.nil
            try simp only [List.getElem_toArray, List.getElem_cons_zero, List.getElem_cons_succ]
            go_simp
            go_at_call 29
            refine (HLK.out _).mono ?_
            rintro e w4 ⟨rfl, hb_w4⟩
            have hs4 := hb_w4.size
            (try simp only [World.size_alloc, World.size_setCell, World.size_drew, World.heap_drewN] at hs4)
            have mw40 : w4.cell? ⟨b, off + k * 11, none⟩ = some (.int .u8 d.kd) := (hb_w4.cell (p := ⟨b, off + k * 11, none⟩) (by first | omega | (simp; omega) | simp)).trans (by first | assumption | (simp [go_sem]; done) | exact (World.cell?_alloc_lt _ _ ⟨_, _, _⟩ (by first | omega | (simp; omega) | simp)).trans (by assumption))
            have mw41 : w4.cell? ⟨b, off + k * 11 + 1, none⟩ = some (.int .u8 d.op) := (hb_w4.cell (p := ⟨b, off + k * 11 + 1, none⟩) (by first | omega | (simp; omega) | simp)).trans (by first | assumption | (simp [go_sem]; done) | exact (World.cell?_alloc_lt _ _ ⟨_, _, _⟩ (by first | omega | (simp; omega) | simp)).trans (by assumption))
            have mw42 : w4.cell? ⟨b, off + k * 11 + 2, none⟩ = some (.int .i64 d.oa) := (hb_w4.cell (p := ⟨b, off + k * 11 + 2, none⟩) (by first | omega | (simp; omega) | simp)).trans (by first | assumption | (simp [go_sem]; done) | exact (World.cell?_alloc_lt _ _ ⟨_, _, _⟩ (by first | omega | (simp; omega) | simp)).trans (by assumption))
            have mw43 : w4.cell? ⟨b, off + k * 11 + 3, none⟩ = some (.int .i64 d.ob) := (hb_w4.cell (p := ⟨b, off + k * 11 + 3, none⟩) (by first | omega | (simp; omega) | simp)).trans (by first | assumption | (simp [go_sem]; done) | exact (World.cell?_alloc_lt _ _ ⟨_, _, _⟩ (by first | omega | (simp; omega) | simp)).trans (by assumption))
            have mw44 : w4.cell? ⟨b, off + k * 11 + 4, none⟩ = some (.int .i64 d.fd) := (hb_w4.cell (p := ⟨b, off + k * 11 + 4, none⟩) (by first | omega | (simp; omega) | simp)).trans (by first | assumption | (simp [go_sem]; done) | exact (World.cell?_alloc_lt _ _ ⟨_, _, _⟩ (by first | omega | (simp; omega) | simp)).trans (by assumption))
            have mw45 : w4.cell? ⟨b, off + k * 11 + 5, none⟩ = some (.int .i64 d.n) := (hb_w4.cell (p := ⟨b, off + k * 11 + 5, none⟩) (by first | omega | (simp; omega) | simp)).trans (by first | assumption | (simp [go_sem]; done) | exact (World.cell?_alloc_lt _ _ ⟨_, _, _⟩ (by first | omega | (simp; omega) | simp)).trans (by assumption))
            have mw46 : w4.cell? ⟨b, off + k * 11 + 6, none⟩ = some (.int .u64 d.m) := (hb_w4.cell (p := ⟨b, off + k * 11 + 6, none⟩) (by first | omega | (simp; omega) | simp)).trans (by first | assumption | (simp [go_sem]; done) | exact (World.cell?_alloc_lt _ _ ⟨_, _, _⟩ (by first | omega | (simp; omega) | simp)).trans (by assumption))
            have mw47 : w4.cell? ⟨b, off + k * 11 + 7, none⟩ = some (.int .u64 d.w) := (hb_w4.cell (p := ⟨b, off + k * 11 + 7, none⟩) (by first | omega | (simp; omega) | simp)).trans (by first | assumption | (simp [go_sem]; done) | exact (World.cell?_alloc_lt _ _ ⟨_, _, _⟩ (by first | omega | (simp; omega) | simp)).trans (by assumption))
            have mw48 : w4.cell? ⟨b, off + k * 11 + 8, none⟩ = some (.int .i64 d.a) := (hb_w4.cell (p := ⟨b, off + k * 11 + 8, none⟩) (by first | omega | (simp; omega) | simp)).trans (by first | assumption | (simp [go_sem]; done) | exact (World.cell?_alloc_lt _ _ ⟨_, _, _⟩ (by first | omega | (simp; omega) | simp)).trans (by assumption))
            have mw49 : w4.cell? ⟨b, off + k * 11 + 9, none⟩ = some (.int .i64 d.b) := (hb_w4.cell (p := ⟨b, off + k * 11 + 9, none⟩) (by first | omega | (simp; omega) | simp)).trans (by first | assumption | (simp [go_sem]; done) | exact (World.cell?_alloc_lt _ _ ⟨_, _, _⟩ (by first | omega | (simp; omega) | simp)).trans (by assumption))
            have mw410 : w4.cell? ⟨b, off + k * 11 + 10, none⟩ = some (.int .i64 d.to) := (hb_w4.cell (p := ⟨b, off + k * 11 + 10, none⟩) (by first | omega | (simp; omega) | simp)).trans (by first | assumption | (simp [go_sem]; done) | exact (World.cell?_alloc_lt _ _ ⟨_, _, _⟩ (by first | omega | (simp; omega) | simp)).trans (by assumption))
            try go_wp2_with fail
            refine hK.out _ _ ?_ (fun hHeld => ?_)
            · (try dsimp only); refine ⟨?_, ?_, ?_, ?_, ?_, ?_, ?_, ?_, ?_, ?_, ?_⟩ <;> first | assumption | (simp [go_sem]; done) | exact (World.cell?_alloc_lt _ _ ⟨_, _, _⟩ (by first | omega | (simp; omega) | simp)).trans (by assumption)
            clear hK K
            try simp only [Act.put, List.getElem_toArray, List.getElem_cons_zero, List.getElem_cons_succ, List.setIfInBounds_toArray, List.set_cons_zero, List.set_cons_succ]
            refine wpAnyH_take (i := 13) (v := ?_) rfl (by kernel_rfl) (by kernel_rfl) (by kernel_rfl) (fun _ _ _ h => h) (Or.inl ⟨by rfl, ?_⟩) (by assumption) ?_
            rotate_left
            · (intro w hSw; (try dsimp only at hSw); go_simp; first | done | with_reducible rfl)
            try simp only [Act.put, List.getElem_toArray, List.getElem_cons_zero, List.getElem_cons_succ, List.setIfInBounds_toArray, List.set_cons_zero, List.set_cons_succ]
            refine wpAnyH_take (i := 14) (v := ?_) rfl (by kernel_rfl) (by kernel_rfl) (by kernel_rfl) (fun _ _ _ h => h) (Or.inl ⟨by rfl, ?_⟩) (by assumption) ?_
            rotate_left
            · (intro w hSw; (try dsimp only at hSw); go_simp; first | done | with_reducible rfl)
            try simp only [Act.put, List.getElem_toArray, List.getElem_cons_zero, List.getElem_cons_succ, List.setIfInBounds_toArray, List.set_cons_zero, List.set_cons_succ]
            refine wpAnyH_take (i := 15) (v := ?_) rfl (by kernel_rfl) (by kernel_rfl) (by kernel_rfl) (fun _ _ _ h => h) (Or.inl ⟨by rfl, ?_⟩) (by assumption) ?_
            rotate_left
            · (intro w hSw; (try dsimp only at hSw); go_simp; first | done | with_reducible rfl)
            try simp only [Act.put, List.getElem_toArray, List.getElem_cons_zero, List.getElem_cons_succ, List.setIfInBounds_toArray, List.set_cons_zero, List.set_cons_succ]
            refine wpAnyH_done (by kernel_rfl) ?_ _
            go_wp2
            go_roundw
            case rel => exact ⟨k + 1, by first | (rw [← HCAT.out]; done) | (rw [← HCAT.out, HSS.out]; done), by go_num, by omega, (by repeat (first | exact Below.refl _ _ | assumption | (refine below_drewN ?_ _) | (refine Below.drew ?_) | (refine Below.alloc ?_ (by first | omega | (simp; omega) | simp) _) | (refine Below.setCell ?_ (by first | omega | (simp; omega) | simp) _) | (refine below_trans ?_ (by assumption) (by first | omega | (simp; omega) | simp))))⟩
            case measure => (simp [intOf]; try omega)
          · have hm := HMID.out
            rw [if_neg h0] at hm
            have e1 : (bs lb0).toList.isEmpty = false := by rw [ByteArray.toList_eq, bs_data]; simpa using h0
            have e2 : ((bs lb0).toList == []) = false := by rw [ByteArray.toList_eq, bs_data]; simpa using h0
            have z1 : ¬ (9223372036854775807 < (bs lb0).size + 2) := by omega
            have z2 : ¬ (9223372036854775807 < S0.size + ((bs lb0).size + 2)) := by omega
            have z3 : ¬ (9223372036854775807 < S0.size + ((bs lb0).size + 2) + (LI.size + 1)) := by omega
            clear HMID h0
            generalize bs lb0 = B0 at *
            have HSS := Lib.hid hm
            clear hm
            obtain ⟨b, off, rfl, hbb, hc⟩ := HR2.out
            have c5 := hc k hlt
            rw [HD.out] at c5
            clear hc HR2
            obtain ⟨c0, c1, c2, c3, c4, c5, c6, c7, c8, c9, c10⟩ := c5
            go_upto_region 11 with (fail)
            refine wp_region_held_drew (S := (fun X : World => X.cell? ⟨b, off + k * 11, none⟩ = some (.int .u8 d.kd) ∧ X.cell? ⟨b, off + k * 11 + 1, none⟩ = some (.int .u8 d.op) ∧ X.cell? ⟨b, off + k * 11 + 2, none⟩ = some (.int .i64 d.oa) ∧ X.cell? ⟨b, off + k * 11 + 3, none⟩ = some (.int .i64 d.ob) ∧ X.cell? ⟨b, off + k * 11 + 4, none⟩ = some (.int .i64 d.fd) ∧ X.cell? ⟨b, off + k * 11 + 5, none⟩ = some (.int .i64 d.n) ∧ X.cell? ⟨b, off + k * 11 + 6, none⟩ = some (.int .u64 d.m) ∧ X.cell? ⟨b, off + k * 11 + 7, none⟩ = some (.int .u64 d.w) ∧ X.cell? ⟨b, off + k * 11 + 8, none⟩ = some (.int .i64 d.a) ∧ X.cell? ⟨b, off + k * 11 + 9, none⟩ = some (.int .i64 d.b) ∧ X.cell? ⟨b, off + k * 11 + 10, none⟩ = some (.int .i64 d.to))) (by kernel_rfl) ?_ (fun hHeld => ?_)
            · (try dsimp only); refine ⟨?_, ?_, ?_, ?_, ?_, ?_, ?_, ?_, ?_, ?_, ?_⟩ <;> first | assumption | (simp [go_sem]; done) | exact (World.cell?_alloc_lt _ _ ⟨_, _, _⟩ (by first | omega | (simp; omega) | simp)).trans (by assumption)
            refine wpAnyH_take (i := 0) (v := ?_) rfl (by kernel_rfl) (by kernel_rfl) (by kernel_rfl) (fun _ _ _ h => h) (Or.inl ⟨by rfl, ?_⟩) (by assumption) ?_
            rotate_left
            · (intro w hSw; (try dsimp only at hSw); go_simp; first | done | with_reducible rfl)
            try simp only [Act.put, List.getElem_toArray, List.getElem_cons_zero, List.getElem_cons_succ, List.setIfInBounds_toArray, List.set_cons_zero, List.set_cons_succ]
            refine wpAnyH_take (i := 1) (v := ?_) rfl (by kernel_rfl) (by kernel_rfl) (by kernel_rfl) (fun _ _ _ h => h) (Or.inl ⟨by rfl, ?_⟩) (by assumption) ?_
            rotate_left
            · (intro w hSw; (try dsimp only at hSw); go_simp; first | done | with_reducible rfl)
            try simp only [Act.put, List.getElem_toArray, List.getElem_cons_zero, List.getElem_cons_succ, List.setIfInBounds_toArray, List.set_cons_zero, List.set_cons_succ]
            refine wpAnyH_take (i := 2) (v := ?_) rfl (by kernel_rfl) (by kernel_rfl) (by kernel_rfl) (fun _ _ _ h => h) (Or.inl ⟨by rfl, ?_⟩) (by assumption) ?_
            rotate_left
            · (intro w hSw; (try dsimp only at hSw); go_simp; first | done | with_reducible rfl)
            try simp only [Act.put, List.getElem_toArray, List.getElem_cons_zero, List.getElem_cons_succ, List.setIfInBounds_toArray, List.set_cons_zero, List.set_cons_succ]
            refine wpAnyH_take (i := 3) (v := ?_) rfl (by kernel_rfl) (by kernel_rfl) (by kernel_rfl) (fun _ _ _ h => h) (Or.inl ⟨by rfl, ?_⟩) (by assumption) ?_
            rotate_left
            · (intro w hSw; (try dsimp only at hSw); go_simp; first | done | with_reducible rfl)
            try simp only [Act.put, List.getElem_toArray, List.getElem_cons_zero, List.getElem_cons_succ, List.setIfInBounds_toArray, List.set_cons_zero, List.set_cons_succ]
            refine wpAnyH_take (i := 4) (v := ?_) rfl (by kernel_rfl) (by kernel_rfl) (by kernel_rfl) (fun _ _ _ h => h) (Or.inl ⟨by rfl, ?_⟩) (by assumption) ?_
            rotate_left
            · (intro w hSw; (try dsimp only at hSw); go_simp; first | done | with_reducible rfl)
            try simp only [Act.put, List.getElem_toArray, List.getElem_cons_zero, List.getElem_cons_succ, List.setIfInBounds_toArray, List.set_cons_zero, List.set_cons_succ]
            refine wpAnyH_take (i := 5) (v := ?_) rfl (by kernel_rfl) (by kernel_rfl) (by kernel_rfl) (fun _ _ _ h => h) (Or.inl ⟨by rfl, ?_⟩) (by assumption) ?_
            rotate_left
            · (intro w hSw; (try dsimp only at hSw); go_simp; first | done | with_reducible rfl)
            try simp only [Act.put, List.getElem_toArray, List.getElem_cons_zero, List.getElem_cons_succ, List.setIfInBounds_toArray, List.set_cons_zero, List.set_cons_succ]
            refine wpAnyH_take (i := 6) (v := ?_) rfl (by kernel_rfl) (by kernel_rfl) (by kernel_rfl) (fun _ _ _ h => h) (Or.inl ⟨by rfl, ?_⟩) (by assumption) ?_
            rotate_left
            · (intro w hSw; (try dsimp only at hSw); go_simp; first | done | with_reducible rfl)
            try simp only [Act.put, List.getElem_toArray, List.getElem_cons_zero, List.getElem_cons_succ, List.setIfInBounds_toArray, List.set_cons_zero, List.set_cons_succ]
            refine wpAnyH_take (i := 7) (v := ?_) rfl (by kernel_rfl) (by kernel_rfl) (by kernel_rfl) (fun _ _ _ h => h) (Or.inl ⟨by rfl, ?_⟩) (by assumption) ?_
            rotate_left
            · (intro w hSw; (try dsimp only at hSw); go_simp; first | done | with_reducible rfl)
            try simp only [Act.put, List.getElem_toArray, List.getElem_cons_zero, List.getElem_cons_succ, List.setIfInBounds_toArray, List.set_cons_zero, List.set_cons_succ]
            refine wpAnyH_take (i := 8) (v := ?_) rfl (by kernel_rfl) (by kernel_rfl) (by kernel_rfl) (fun _ _ _ h => h) (Or.inl ⟨by rfl, ?_⟩) (by assumption) ?_
            rotate_left
            · (intro w hSw; (try dsimp only at hSw); go_simp; first | done | with_reducible rfl)
            try simp only [Act.put, List.getElem_toArray, List.getElem_cons_zero, List.getElem_cons_succ, List.setIfInBounds_toArray, List.set_cons_zero, List.set_cons_succ]
            refine wpAnyH_take (i := 9) (v := ?_) rfl (by kernel_rfl) (by kernel_rfl) (by kernel_rfl) (fun _ _ _ h => h) (Or.inl ⟨by rfl, ?_⟩) (by assumption) ?_
            rotate_left
            · (intro w hSw; (try dsimp only at hSw); go_simp; first | done | with_reducible rfl)
            try simp only [Act.put, List.getElem_toArray, List.getElem_cons_zero, List.getElem_cons_succ, List.setIfInBounds_toArray, List.set_cons_zero, List.set_cons_succ]
            refine wpAnyH_take (i := 10) (v := ?_) rfl (by kernel_rfl) (by kernel_rfl) (by kernel_rfl) (fun _ _ _ h => h) (Or.inl ⟨by rfl, ?_⟩) (by assumption) ?_
            rotate_left
            · (intro w hSw; (try dsimp only at hSw); go_simp; first | done | with_reducible rfl)
            try simp only [Act.put, List.getElem_toArray, List.getElem_cons_zero, List.getElem_cons_succ, List.setIfInBounds_toArray, List.set_cons_zero, List.set_cons_succ]
            refine wpAnyH_ready (rs := [11]) (by kernel_rfl) (by simp) ?_
            refine AllReadyH.cons rfl (fun K hK => ?_) AllReadyH.nil
            try simp only [List.getElem_toArray, List.getElem_cons_zero, List.getElem_cons_succ]
            go_simp
            go_at_call 28
            refine (HBT.out _ (hr.later (by repeat (first | exact Below.refl _ _ | assumption | (refine below_drewN ?_ _) | (refine Below.drew ?_) | (refine Below.alloc ?_ (by first | omega | (simp; omega) | simp) _) | (refine Below.setCell ?_ (by first | omega | (simp; omega) | simp) _) | (refine below_trans ?_ (by assumption) (by first | omega | (simp; omega) | simp)))))).mono ?_
            rintro e w3 ⟨rfl, hb_w3⟩
            have hs3 := hb_w3.size
            (try simp only [World.size_alloc, World.size_setCell, World.size_drew, World.heap_drewN] at hs3)
            have mw30 : w3.cell? ⟨b, off + k * 11, none⟩ = some (.int .u8 d.kd) := (hb_w3.cell (p := ⟨b, off + k * 11, none⟩) (by first | omega | (simp; omega) | simp)).trans (by first | assumption | (simp [go_sem]; done) | exact (World.cell?_alloc_lt _ _ ⟨_, _, _⟩ (by first | omega | (simp; omega) | simp)).trans (by assumption))
            have mw31 : w3.cell? ⟨b, off + k * 11 + 1, none⟩ = some (.int .u8 d.op) := (hb_w3.cell (p := ⟨b, off + k * 11 + 1, none⟩) (by first | omega | (simp; omega) | simp)).trans (by first | assumption | (simp [go_sem]; done) | exact (World.cell?_alloc_lt _ _ ⟨_, _, _⟩ (by first | omega | (simp; omega) | simp)).trans (by assumption))
            have mw32 : w3.cell? ⟨b, off + k * 11 + 2, none⟩ = some (.int .i64 d.oa) := (hb_w3.cell (p := ⟨b, off + k * 11 + 2, none⟩) (by first | omega | (simp; omega) | simp)).trans (by first | assumption | (simp [go_sem]; done) | exact (World.cell?_alloc_lt _ _ ⟨_, _, _⟩ (by first | omega | (simp; omega) | simp)).trans (by assumption))
            have mw33 : w3.cell? ⟨b, off + k * 11 + 3, none⟩ = some (.int .i64 d.ob) := (hb_w3.cell (p := ⟨b, off + k * 11 + 3, none⟩) (by first | omega | (simp; omega) | simp)).trans (by first | assumption | (simp [go_sem]; done) | exact (World.cell?_alloc_lt _ _ ⟨_, _, _⟩ (by first | omega | (simp; omega) | simp)).trans (by assumption))
            have mw34 : w3.cell? ⟨b, off + k * 11 + 4, none⟩ = some (.int .i64 d.fd) := (hb_w3.cell (p := ⟨b, off + k * 11 + 4, none⟩) (by first | omega | (simp; omega) | simp)).trans (by first | assumption | (simp [go_sem]; done) | exact (World.cell?_alloc_lt _ _ ⟨_, _, _⟩ (by first | omega | (simp; omega) | simp)).trans (by assumption))
            have mw35 : w3.cell? ⟨b, off + k * 11 + 5, none⟩ = some (.int .i64 d.n) := (hb_w3.cell (p := ⟨b, off + k * 11 + 5, none⟩) (by first | omega | (simp; omega) | simp)).trans (by first | assumption | (simp [go_sem]; done) | exact (World.cell?_alloc_lt _ _ ⟨_, _, _⟩ (by first | omega | (simp; omega) | simp)).trans (by assumption))
            have mw36 : w3.cell? ⟨b, off + k * 11 + 6, none⟩ = some (.int .u64 d.m) := (hb_w3.cell (p := ⟨b, off + k * 11 + 6, none⟩) (by first | omega | (simp; omega) | simp)).trans (by first | assumption | (simp [go_sem]; done) | exact (World.cell?_alloc_lt _ _ ⟨_, _, _⟩ (by first | omega | (simp; omega) | simp)).trans (by assumption))
            have mw37 : w3.cell? ⟨b, off + k * 11 + 7, none⟩ = some (.int .u64 d.w) := (hb_w3.cell (p := ⟨b, off + k * 11 + 7, none⟩) (by first | omega | (simp; omega) | simp)).trans (by first | assumption | (simp [go_sem]; done) | exact (World.cell?_alloc_lt _ _ ⟨_, _, _⟩ (by first | omega | (simp; omega) | simp)).trans (by assumption))
            have mw38 : w3.cell? ⟨b, off + k * 11 + 8, none⟩ = some (.int .i64 d.a) := (hb_w3.cell (p := ⟨b, off + k * 11 + 8, none⟩) (by first | omega | (simp; omega) | simp)).trans (by first | assumption | (simp [go_sem]; done) | exact (World.cell?_alloc_lt _ _ ⟨_, _, _⟩ (by first | omega | (simp; omega) | simp)).trans (by assumption))
            have mw39 : w3.cell? ⟨b, off + k * 11 + 9, none⟩ = some (.int .i64 d.b) := (hb_w3.cell (p := ⟨b, off + k * 11 + 9, none⟩) (by first | omega | (simp; omega) | simp)).trans (by first | assumption | (simp [go_sem]; done) | exact (World.cell?_alloc_lt _ _ ⟨_, _, _⟩ (by first | omega | (simp; omega) | simp)).trans (by assumption))
            have mw310 : w3.cell? ⟨b, off + k * 11 + 10, none⟩ = some (.int .i64 d.to) := (hb_w3.cell (p := ⟨b, off + k * 11 + 10, none⟩) (by first | omega | (simp; omega) | simp)).trans (by first | assumption | (simp [go_sem]; done) | exact (World.cell?_alloc_lt _ _ ⟨_, _, _⟩ (by first | omega | (simp; omega) | simp)).trans (by assumption))
            try go_wp2_with fail
            refine hK.out _ _ ?_ (fun hHeld => ?_)
            · (try dsimp only); refine ⟨?_, ?_, ?_, ?_, ?_, ?_, ?_, ?_, ?_, ?_, ?_⟩ <;> first | assumption | (simp [go_sem]; done) | exact (World.cell?_alloc_lt _ _ ⟨_, _, _⟩ (by first | omega | (simp; omega) | simp)).trans (by assumption)
            clear hK K
            try simp only [Act.put, List.getElem_toArray, List.getElem_cons_zero, List.getElem_cons_succ, List.setIfInBounds_toArray, List.set_cons_zero, List.set_cons_succ]
            refine wpAnyH_ready (rs := [12]) (by kernel_rfl) (by simp) ?_
            refine AllReadyH.cons rfl (fun K hK => ?_) AllReadyH.nil
            try simp only [List.getElem_toArray, List.getElem_cons_zero, List.getElem_cons_succ]
            go_simp
            go_at_call 29
            refine (HLK.out _).mono ?_
            rintro e w4 ⟨rfl, hb_w4⟩
            have hs4 := hb_w4.size
            (try simp only [World.size_alloc, World.size_setCell, World.size_drew, World.heap_drewN] at hs4)
            have mw40 : w4.cell? ⟨b, off + k * 11, none⟩ = some (.int .u8 d.kd) := (hb_w4.cell (p := ⟨b, off + k * 11, none⟩) (by first | omega | (simp; omega) | simp)).trans (by first | assumption | (simp [go_sem]; done) | exact (World.cell?_alloc_lt _ _ ⟨_, _, _⟩ (by first | omega | (simp; omega) | simp)).trans (by assumption))
            have mw41 : w4.cell? ⟨b, off + k * 11 + 1, none⟩ = some (.int .u8 d.op) := (hb_w4.cell (p := ⟨b, off + k * 11 + 1, none⟩) (by first | omega | (simp; omega) | simp)).trans (by first | assumption | (simp [go_sem]; done) | exact (World.cell?_alloc_lt _ _ ⟨_, _, _⟩ (by first | omega | (simp; omega) | simp)).trans (by assumption))
            have mw42 : w4.cell? ⟨b, off + k * 11 + 2, none⟩ = some (.int .i64 d.oa) := (hb_w4.cell (p := ⟨b, off + k * 11 + 2, none⟩) (by first | omega | (simp; omega) | simp)).trans (by first | assumption | (simp [go_sem]; done) | exact (World.cell?_alloc_lt _ _ ⟨_, _, _⟩ (by first | omega | (simp; omega) | simp)).trans (by assumption))
            have mw43 : w4.cell? ⟨b, off + k * 11 + 3, none⟩ = some (.int .i64 d.ob) := (hb_w4.cell (p := ⟨b, off + k * 11 + 3, none⟩) (by first | omega | (simp; omega) | simp)).trans (by first | assumption | (simp [go_sem]; done) | exact (World.cell?_alloc_lt _ _ ⟨_, _, _⟩ (by first | omega | (simp; omega) | simp)).trans (by assumption))
            have mw44 : w4.cell? ⟨b, off + k * 11 + 4, none⟩ = some (.int .i64 d.fd) := (hb_w4.cell (p := ⟨b, off + k * 11 + 4, none⟩) (by first | omega | (simp; omega) | simp)).trans (by first | assumption | (simp [go_sem]; done) | exact (World.cell?_alloc_lt _ _ ⟨_, _, _⟩ (by first | omega | (simp; omega) | simp)).trans (by assumption))
            have mw45 : w4.cell? ⟨b, off + k * 11 + 5, none⟩ = some (.int .i64 d.n) := (hb_w4.cell (p := ⟨b, off + k * 11 + 5, none⟩) (by first | omega | (simp; omega) | simp)).trans (by first | assumption | (simp [go_sem]; done) | exact (World.cell?_alloc_lt _ _ ⟨_, _, _⟩ (by first | omega | (simp; omega) | simp)).trans (by assumption))
            have mw46 : w4.cell? ⟨b, off + k * 11 + 6, none⟩ = some (.int .u64 d.m) := (hb_w4.cell (p := ⟨b, off + k * 11 + 6, none⟩) (by first | omega | (simp; omega) | simp)).trans (by first | assumption | (simp [go_sem]; done) | exact (World.cell?_alloc_lt _ _ ⟨_, _, _⟩ (by first | omega | (simp; omega) | simp)).trans (by assumption))
            have mw47 : w4.cell? ⟨b, off + k * 11 + 7, none⟩ = some (.int .u64 d.w) := (hb_w4.cell (p := ⟨b, off + k * 11 + 7, none⟩) (by first | omega | (simp; omega) | simp)).trans (by first | assumption | (simp [go_sem]; done) | exact (World.cell?_alloc_lt _ _ ⟨_, _, _⟩ (by first | omega | (simp; omega) | simp)).trans (by assumption))
            have mw48 : w4.cell? ⟨b, off + k * 11 + 8, none⟩ = some (.int .i64 d.a) := (hb_w4.cell (p := ⟨b, off + k * 11 + 8, none⟩) (by first | omega | (simp; omega) | simp)).trans (by first | assumption | (simp [go_sem]; done) | exact (World.cell?_alloc_lt _ _ ⟨_, _, _⟩ (by first | omega | (simp; omega) | simp)).trans (by assumption))
            have mw49 : w4.cell? ⟨b, off + k * 11 + 9, none⟩ = some (.int .i64 d.b) := (hb_w4.cell (p := ⟨b, off + k * 11 + 9, none⟩) (by first | omega | (simp; omega) | simp)).trans (by first | assumption | (simp [go_sem]; done) | exact (World.cell?_alloc_lt _ _ ⟨_, _, _⟩ (by first | omega | (simp; omega) | simp)).trans (by assumption))
            have mw410 : w4.cell? ⟨b, off + k * 11 + 10, none⟩ = some (.int .i64 d.to) := (hb_w4.cell (p := ⟨b, off + k * 11 + 10, none⟩) (by first | omega | (simp; omega) | simp)).trans (by first | assumption | (simp [go_sem]; done) | exact (World.cell?_alloc_lt _ _ ⟨_, _, _⟩ (by first | omega | (simp; omega) | simp)).trans (by assumption))
            try go_wp2_with fail
            refine hK.out _ _ ?_ (fun hHeld => ?_)
            · (try dsimp only); refine ⟨?_, ?_, ?_, ?_, ?_, ?_, ?_, ?_, ?_, ?_, ?_⟩ <;> first | assumption | (simp [go_sem]; done) | exact (World.cell?_alloc_lt _ _ ⟨_, _, _⟩ (by first | omega | (simp; omega) | simp)).trans (by assumption)
            clear hK K
            try simp only [Act.put, List.getElem_toArray, List.getElem_cons_zero, List.getElem_cons_succ, List.setIfInBounds_toArray, List.set_cons_zero, List.set_cons_succ]
            refine wpAnyH_take (i := 13) (v := ?_) rfl (by kernel_rfl) (by kernel_rfl) (by kernel_rfl) (fun _ _ _ h => h) (Or.inl ⟨by rfl, ?_⟩) (by assumption) ?_
            rotate_left
            · (intro w hSw; (try dsimp only at hSw); go_simp; first | done | with_reducible rfl)
            try simp only [Act.put, List.getElem_toArray, List.getElem_cons_zero, List.getElem_cons_succ, List.setIfInBounds_toArray, List.set_cons_zero, List.set_cons_succ]
            refine wpAnyH_take (i := 14) (v := ?_) rfl (by kernel_rfl) (by kernel_rfl) (by kernel_rfl) (fun _ _ _ h => h) (Or.inl ⟨by rfl, ?_⟩) (by assumption) ?_
            rotate_left
            · (intro w hSw; (try dsimp only at hSw); go_simp; first | done | with_reducible rfl)
            try simp only [Act.put, List.getElem_toArray, List.getElem_cons_zero, List.getElem_cons_succ, List.setIfInBounds_toArray, List.set_cons_zero, List.set_cons_succ]
            refine wpAnyH_take (i := 15) (v := ?_) rfl (by kernel_rfl) (by kernel_rfl) (by kernel_rfl) (fun _ _ _ h => h) (Or.inl ⟨by rfl, ?_⟩) (by assumption) ?_
            rotate_left
            · (intro w hSw; (try dsimp only at hSw); go_simp; first | done | with_reducible rfl)
            try simp only [Act.put, List.getElem_toArray, List.getElem_cons_zero, List.getElem_cons_succ, List.setIfInBounds_toArray, List.set_cons_zero, List.set_cons_succ]
            refine wpAnyH_done (by kernel_rfl) ?_ _
            go_wp2
            go_roundw
            case rel => exact ⟨k + 1, by first | (rw [← HCAT.out]; done) | (rw [← HCAT.out, HSS.out]; done), by go_num, by omega, (by repeat (first | exact Below.refl _ _ | assumption | (refine below_drewN ?_ _) | (refine Below.drew ?_) | (refine Below.alloc ?_ (by first | omega | (simp; omega) | simp) _) | (refine Below.setCell ?_ (by first | omega | (simp; omega) | simp) _) | (refine below_trans ?_ (by assumption) (by first | omega | (simp; omega) | simp))))⟩
            case measure => (simp [intOf]; try omega)
        · obtain rfl : k = l.length := by omega
          have d2 : decide ((l.length : Int) < (l.length : Int)) = false := decide_eq_false (by omega)
          have d2n : decide (l.length < l.length) = false := decide_eq_false (by omega)
          have hpl := HPL.out
          rw [← hpl] at HMID
          have HM2 := Lib.hid HMID.out
          clear HMID hpl HT1
          go_wp2_with fail
          go_at_call 28
          refine (HBK.out _ (hr.later (by repeat (first | exact Below.refl _ _ | assumption | (refine below_drewN ?_ _) | (refine Below.drew ?_) | (refine Below.alloc ?_ (by first | omega | (simp; omega) | simp) _) | (refine Below.setCell ?_ (by first | omega | (simp; omega) | simp) _) | (refine below_trans ?_ (by assumption) (by first | omega | (simp; omega) | simp)))))).mono ?_
          rintro e w2 ⟨rfl, hb_w2⟩
          obtain ⟨hc_w2, hf_w2⟩ := bcell hb_w2; have hs_w2 := hb_w2.size; (try simp only [World.size_alloc, World.size_setCell, World.size_drew, World.heap_drewN] at hs_w2)
          have b2 : Below w.heap.size w w2 := (by repeat (first | exact Below.refl _ _ | assumption | (refine below_drewN ?_ _) | (refine Below.drew ?_) | (refine Below.alloc ?_ (by first | omega | (simp; omega) | simp) _) | (refine Below.setCell ?_ (by first | omega | (simp; omega) | simp) _) | (refine below_trans ?_ (by assumption) (by first | omega | (simp; omega) | simp))))
          clear hc_w2 hf_w2
          by_cases h0 : lb0 = []
          · have hm := HM2.out
            rw [if_pos h0] at hm
            subst h0
            have e1 : (bs []).toList.isEmpty = true := by rw [ByteArray.toList_eq, bs_data]; rfl
            have e2 : ((bs []).toList == []) = true := by rw [ByteArray.toList_eq, bs_data]; rfl
            have HSS := Lib.hid hm
            clear HM2 hm
            go_wp2
            go_roundw
            case rel => exact ⟨l.length + 1, by rw [HSS.out], by go_num, by omega, b2⟩
            case measure => (simp [intOf]; try omega)
          · have hm := HM2.out
            rw [if_neg h0] at hm
            have e1 : (bs lb0).toList.isEmpty = false := by rw [ByteArray.toList_eq, bs_data]; simpa using h0
            have e2 : ((bs lb0).toList == []) = false := by rw [ByteArray.toList_eq, bs_data]; simpa using h0
            have z1 : ¬ (9223372036854775807 < (bs lb0).size + 2) := by omega
            have z2 : ¬ (9223372036854775807 < (bs (T l.length)).size + ((bs lb0).size + 2)) := by omega
            clear HM2 h0
            generalize bs lb0 = B0 at *
            have HSS := Lib.hid hm
            clear hm
            go_wp2
            go_roundw
            case rel => exact ⟨l.length + 1, by rw [HSS.out], by go_num, by omega, b2⟩
            case measure => (simp [intOf]; try omega)
      · obtain rfl : k = l.length + 1 := by omega
        have d1 : decide (((l.length + 1 : Nat) : Int) ≤ (l.length : Int)) = false := decide_eq_false (by omega)
        have d1n : decide (l.length + 1 ≤ l.length) = false := decide_eq_false (by omega)
        go_wp2
        go_ret2
        exact ⟨.inl ⟨HOK.out, by rw [← HPE.out]; rfl⟩, (by repeat (first | exact Below.refl _ _ | assumption | (refine below_drewN ?_ _) | (refine Below.drew ?_) | (refine Below.alloc ?_ (by first | omega | (simp; omega) | simp) _) | (refine Below.setCell ?_ (by first | omega | (simp; omega) | simp) _) | (refine below_trans ?_ (by assumption) (by first | omega | (simp; omega) | simp))))⟩
  · have HC := Lib.hid fun (w : World) hr => xcheckP_any (w := w) (A := A) (l := l) cap hr hl hx 2 (.inr ⟨hok, rfl⟩)
    have HOK := Lib.hid hok
    clear hok hx
    go_enter Tryz.func13, Tryz.ntmps13
    go_wp2_with fail
    go_at_call 19
    refine (HC.out _ (hr.later (by repeat (first | exact Below.refl _ _ | assumption | (refine below_drewN ?_ _) | (refine Below.drew ?_) | (refine Below.alloc ?_ (by first | omega | (simp; omega) | simp) _) | (refine Below.setCell ?_ (by first | omega | (simp; omega) | simp) _) | (refine below_trans ?_ (by assumption) (by first | omega | (simp; omega) | simp)))))).mono ?_
    rintro e w1 ⟨rfl, hb_w1⟩
    obtain ⟨hc_w1, hf_w1⟩ := bcell hb_w1; have hs_w1 := hb_w1.size; (try simp only [World.size_alloc, World.size_setCell, World.size_drew, World.heap_drewN] at hs_w1)
    go_wp2
    go_ret2
    exact ⟨.inr ⟨HOK.out, rfl⟩, (by repeat (first | exact Below.refl _ _ | assumption | (refine below_drewN ?_ _) | (refine Below.drew ?_) | (refine Below.alloc ?_ (by first | omega | (simp; omega) | simp) _) | (refine Below.setCell ?_ (by first | omega | (simp; omega) | simp) _) | (refine below_trans ?_ (by assumption) (by first | omega | (simp; omega) | simp))))⟩
set_option maxRecDepth 100000 in
set_option maxHeartbeats 8000000 in
theorem xlineP_ok (x : In) (hx : OpB x) (hok : OkI 256 x) : Calls Tryz.prog 15 #[inv x] w fun e w' => e = .returned (.tuple #[.string (bs (lineX x)), .int .i64 0]) ∧ Below w.heap.size w w' := by
  obtain ⟨vb, hvb, HV⟩ := xright_both x 256 hx (by omega)
  obtain rfl : vb = true := hvb.2 hok
  have hto := to_in hok (by omega)
  have HDG := Lib.hid fun (W : World) => xdigits_any (w := W) x.to.toNat (by omega)
  rw [Int.toNat_of_nonneg hto.1] at HDG
  have hlb : (64 :: digs x.to.toNat).length ≤ 1000 := by
    have := digF_len 20 x.to.toNat
    unfold digs
    rw [List.length_cons]
    omega
  have HLN := Lib.hid (fun (W : World) => by
    have := xline_any (w := W) x (64 :: digs x.to.toNat) hlb hx.o0 hx.o1 (OkI.rng hok (by omega))
    rw [lineD_I hok, show bs (64 :: digs x.to.toNat) = (⟨#[64]⟩ : ByteArray) ++ bs (digs x.to.toNat) from by rw [show (⟨#[64]⟩ : ByteArray) = bs [64] from rfl, bs_append]; rfl] at this
    exact this : ∀ W, Calls Tryz.prog 29 #[inv x, .string ((⟨#[64]⟩ : ByteArray) ++ bs (digs x.to.toNat))] W fun e w' => e = .returned (.string (bs (lineI x (64 :: digs x.to.toNat)))) ∧ Below W.heap.size W w')
  have hz := digs_size x.to.toNat
  have hwt : IntKind.u64.wrap x.to = x.to := by
    have := wrap_u x.to (by unfold I63; omega)
    rw [if_pos hto.1] at this
    exact this
  unfold lineX
  generalize bs (lineI x (64 :: digs x.to.toNat)) = LI at *
  generalize bs (digs x.to.toNat) = DG at *
  have z1 : ¬ (9223372036854775807 < 1 + DG.size) := by omega
  clear hvb hok hx hlb hz hto
  unfold inv at HLN ⊢
  have HX0 := Lib.hid (In11.new w x 37)
  go_enter Tryz.func15, Tryz.ntmps15
  go_wp2_with fail
  go_at_call 33
  refine (HV.out _).mono ?_
  rintro e w1 ⟨rfl, hb_w1⟩
  obtain ⟨hc_w1, hf_w1⟩ := bcell hb_w1; have hz_w1_w_0 : w.heap.size < w1.heap.size := (by have hzz := hb_w1.size; (try simp only [World.size_alloc, World.size_setCell, World.size_drew, World.heap_drewN] at hzz); omega); have hs_w1 := hb_w1.size; (try simp only [World.size_alloc, World.size_setCell, World.size_drew, World.heap_drewN] at hs_w1)
  have HX := Lib.hid (HX0.out.later hb_w1)
  have g1 := HX.out.lt
  obtain ⟨c0, c1, c2, c3, c4, c5, c6, c7, c8, c9, c10⟩ := id HX.out
  simp only [Nat.zero_add] at c0 c1 c2 c3 c4 c5 c6 c7 c8 c9 c10
  clear hc_w1 hf_w1
  go_upto_region 3 with (fail)
  refine wp_region_held_drew (S := (fun X : World => X.cell? ⟨w.heap.size, 0, none⟩ = some (.int .u8 x.kd) ∧ X.cell? ⟨w.heap.size, 1, none⟩ = some (.int .u8 x.op) ∧ X.cell? ⟨w.heap.size, 2, none⟩ = some (.int .i64 x.oa) ∧ X.cell? ⟨w.heap.size, 3, none⟩ = some (.int .i64 x.ob) ∧ X.cell? ⟨w.heap.size, 4, none⟩ = some (.int .i64 x.fd) ∧ X.cell? ⟨w.heap.size, 5, none⟩ = some (.int .i64 x.n) ∧ X.cell? ⟨w.heap.size, 6, none⟩ = some (.int .u64 x.m) ∧ X.cell? ⟨w.heap.size, 7, none⟩ = some (.int .u64 x.w) ∧ X.cell? ⟨w.heap.size, 8, none⟩ = some (.int .i64 x.a) ∧ X.cell? ⟨w.heap.size, 9, none⟩ = some (.int .i64 x.b) ∧ X.cell? ⟨w.heap.size, 10, none⟩ = some (.int .i64 x.to))) (by kernel_rfl) ?_ (fun hHeld => ?_)
  · (try dsimp only); refine ⟨?_, ?_, ?_, ?_, ?_, ?_, ?_, ?_, ?_, ?_, ?_⟩ <;> first | assumption | (simp [go_sem]; done) | exact (World.cell?_alloc_lt _ _ ⟨_, _, _⟩ (by first | omega | (simp; omega) | simp)).trans (by assumption)
  refine wpAnyH_take (i := 0) (v := ?_) rfl (by kernel_rfl) (by kernel_rfl) (by kernel_rfl) (fun _ _ _ h => h) (Or.inl ⟨by rfl, ?_⟩) (by assumption) ?_
  rotate_left
  · (intro w hSw; (try dsimp only at hSw); go_simp; first | done | with_reducible rfl)
  try simp only [Act.put, List.getElem_toArray, List.getElem_cons_zero, List.getElem_cons_succ, List.setIfInBounds_toArray, List.set_cons_zero, List.set_cons_succ]
  refine wpAnyH_take (i := 1) (v := ?_) rfl (by kernel_rfl) (by kernel_rfl) (by kernel_rfl) (fun _ _ _ h => h) (Or.inl ⟨by rfl, ?_⟩) (by assumption) ?_
  rotate_left
  · (intro w hSw; (try dsimp only at hSw); go_simp; first | done | with_reducible rfl)
  try simp only [Act.put, List.getElem_toArray, List.getElem_cons_zero, List.getElem_cons_succ, List.setIfInBounds_toArray, List.set_cons_zero, List.set_cons_succ]
  refine wpAnyH_take (i := 2) (v := ?_) rfl (by kernel_rfl) (by kernel_rfl) (by kernel_rfl) (fun _ _ _ h => h) (Or.inl ⟨by rfl, ?_⟩) (by assumption) ?_
  rotate_left
  · (intro w hSw; (try dsimp only at hSw); go_simp; first | done | with_reducible rfl)
  try simp only [Act.put, List.getElem_toArray, List.getElem_cons_zero, List.getElem_cons_succ, List.setIfInBounds_toArray, List.set_cons_zero, List.set_cons_succ]
  refine wpAnyH_take (i := 3) (v := ?_) rfl (by kernel_rfl) (by kernel_rfl) (by kernel_rfl) (fun _ _ _ h => h) (Or.inl ⟨by rfl, ?_⟩) (by assumption) ?_
  rotate_left
  · (intro w hSw; (try dsimp only at hSw); go_simp; first | done | with_reducible rfl)
  try simp only [Act.put, List.getElem_toArray, List.getElem_cons_zero, List.getElem_cons_succ, List.setIfInBounds_toArray, List.set_cons_zero, List.set_cons_succ]
  refine wpAnyH_ready (rs := [4]) (by kernel_rfl) (by simp) ?_
  refine AllReadyH.cons rfl (fun K hK => ?_) AllReadyH.nil
  try simp only [List.getElem_toArray, List.getElem_cons_zero, List.getElem_cons_succ]
  go_simp
  go_at_call 34
  refine (HDG.out _).mono ?_
  rintro e w3 ⟨rfl, hb_w3⟩
  have hs3 := hb_w3.size
  (try simp only [World.size_alloc, World.size_setCell, World.size_drew, World.heap_drewN] at hs3)
  have mw30 : w3.cell? ⟨w.heap.size, 0, none⟩ = some (.int .u8 x.kd) := (hb_w3.cell (p := ⟨w.heap.size, 0, none⟩) (by first | omega | (simp; omega) | simp)).trans (by first | assumption | (simp [go_sem]; done) | exact (World.cell?_alloc_lt _ _ ⟨_, _, _⟩ (by first | omega | (simp; omega) | simp)).trans (by assumption))
  have mw31 : w3.cell? ⟨w.heap.size, 1, none⟩ = some (.int .u8 x.op) := (hb_w3.cell (p := ⟨w.heap.size, 1, none⟩) (by first | omega | (simp; omega) | simp)).trans (by first | assumption | (simp [go_sem]; done) | exact (World.cell?_alloc_lt _ _ ⟨_, _, _⟩ (by first | omega | (simp; omega) | simp)).trans (by assumption))
  have mw32 : w3.cell? ⟨w.heap.size, 2, none⟩ = some (.int .i64 x.oa) := (hb_w3.cell (p := ⟨w.heap.size, 2, none⟩) (by first | omega | (simp; omega) | simp)).trans (by first | assumption | (simp [go_sem]; done) | exact (World.cell?_alloc_lt _ _ ⟨_, _, _⟩ (by first | omega | (simp; omega) | simp)).trans (by assumption))
  have mw33 : w3.cell? ⟨w.heap.size, 3, none⟩ = some (.int .i64 x.ob) := (hb_w3.cell (p := ⟨w.heap.size, 3, none⟩) (by first | omega | (simp; omega) | simp)).trans (by first | assumption | (simp [go_sem]; done) | exact (World.cell?_alloc_lt _ _ ⟨_, _, _⟩ (by first | omega | (simp; omega) | simp)).trans (by assumption))
  have mw34 : w3.cell? ⟨w.heap.size, 4, none⟩ = some (.int .i64 x.fd) := (hb_w3.cell (p := ⟨w.heap.size, 4, none⟩) (by first | omega | (simp; omega) | simp)).trans (by first | assumption | (simp [go_sem]; done) | exact (World.cell?_alloc_lt _ _ ⟨_, _, _⟩ (by first | omega | (simp; omega) | simp)).trans (by assumption))
  have mw35 : w3.cell? ⟨w.heap.size, 5, none⟩ = some (.int .i64 x.n) := (hb_w3.cell (p := ⟨w.heap.size, 5, none⟩) (by first | omega | (simp; omega) | simp)).trans (by first | assumption | (simp [go_sem]; done) | exact (World.cell?_alloc_lt _ _ ⟨_, _, _⟩ (by first | omega | (simp; omega) | simp)).trans (by assumption))
  have mw36 : w3.cell? ⟨w.heap.size, 6, none⟩ = some (.int .u64 x.m) := (hb_w3.cell (p := ⟨w.heap.size, 6, none⟩) (by first | omega | (simp; omega) | simp)).trans (by first | assumption | (simp [go_sem]; done) | exact (World.cell?_alloc_lt _ _ ⟨_, _, _⟩ (by first | omega | (simp; omega) | simp)).trans (by assumption))
  have mw37 : w3.cell? ⟨w.heap.size, 7, none⟩ = some (.int .u64 x.w) := (hb_w3.cell (p := ⟨w.heap.size, 7, none⟩) (by first | omega | (simp; omega) | simp)).trans (by first | assumption | (simp [go_sem]; done) | exact (World.cell?_alloc_lt _ _ ⟨_, _, _⟩ (by first | omega | (simp; omega) | simp)).trans (by assumption))
  have mw38 : w3.cell? ⟨w.heap.size, 8, none⟩ = some (.int .i64 x.a) := (hb_w3.cell (p := ⟨w.heap.size, 8, none⟩) (by first | omega | (simp; omega) | simp)).trans (by first | assumption | (simp [go_sem]; done) | exact (World.cell?_alloc_lt _ _ ⟨_, _, _⟩ (by first | omega | (simp; omega) | simp)).trans (by assumption))
  have mw39 : w3.cell? ⟨w.heap.size, 9, none⟩ = some (.int .i64 x.b) := (hb_w3.cell (p := ⟨w.heap.size, 9, none⟩) (by first | omega | (simp; omega) | simp)).trans (by first | assumption | (simp [go_sem]; done) | exact (World.cell?_alloc_lt _ _ ⟨_, _, _⟩ (by first | omega | (simp; omega) | simp)).trans (by assumption))
  have mw310 : w3.cell? ⟨w.heap.size, 10, none⟩ = some (.int .i64 x.to) := (hb_w3.cell (p := ⟨w.heap.size, 10, none⟩) (by first | omega | (simp; omega) | simp)).trans (by first | assumption | (simp [go_sem]; done) | exact (World.cell?_alloc_lt _ _ ⟨_, _, _⟩ (by first | omega | (simp; omega) | simp)).trans (by assumption))
  try go_wp2_with fail
  refine hK.out _ _ ?_ (fun hHeld => ?_)
  · (try dsimp only); refine ⟨?_, ?_, ?_, ?_, ?_, ?_, ?_, ?_, ?_, ?_, ?_⟩ <;> first | assumption | (simp [go_sem]; done) | exact (World.cell?_alloc_lt _ _ ⟨_, _, _⟩ (by first | omega | (simp; omega) | simp)).trans (by assumption)
  clear hK K
  try simp only [Act.put, List.getElem_toArray, List.getElem_cons_zero, List.getElem_cons_succ, List.setIfInBounds_toArray, List.set_cons_zero, List.set_cons_succ]
  refine wpAnyH_take (i := 5) (v := ?_) rfl (by kernel_rfl) (by kernel_rfl) (by kernel_rfl) (fun _ _ _ h => h) (Or.inl ⟨by rfl, ?_⟩) (by assumption) ?_
  rotate_left
  · (intro w hSw; (try dsimp only at hSw); go_simp; first | done | with_reducible rfl)
  try simp only [Act.put, List.getElem_toArray, List.getElem_cons_zero, List.getElem_cons_succ, List.setIfInBounds_toArray, List.set_cons_zero, List.set_cons_succ]
  refine wpAnyH_ready (rs := [6]) (by kernel_rfl) (by simp) ?_
  refine AllReadyH.cons rfl (fun K hK => ?_) AllReadyH.nil
  try simp only [List.getElem_toArray, List.getElem_cons_zero, List.getElem_cons_succ]
  go_simp
  go_at_call 29
  refine (HLN.out _).mono ?_
  rintro e w4 ⟨rfl, hb_w4⟩
  have hs4 := hb_w4.size
  (try simp only [World.size_alloc, World.size_setCell, World.size_drew, World.heap_drewN] at hs4)
  have mw40 : w4.cell? ⟨w.heap.size, 0, none⟩ = some (.int .u8 x.kd) := (hb_w4.cell (p := ⟨w.heap.size, 0, none⟩) (by first | omega | (simp; omega) | simp)).trans (by first | assumption | (simp [go_sem]; done) | exact (World.cell?_alloc_lt _ _ ⟨_, _, _⟩ (by first | omega | (simp; omega) | simp)).trans (by assumption))
  have mw41 : w4.cell? ⟨w.heap.size, 1, none⟩ = some (.int .u8 x.op) := (hb_w4.cell (p := ⟨w.heap.size, 1, none⟩) (by first | omega | (simp; omega) | simp)).trans (by first | assumption | (simp [go_sem]; done) | exact (World.cell?_alloc_lt _ _ ⟨_, _, _⟩ (by first | omega | (simp; omega) | simp)).trans (by assumption))
  have mw42 : w4.cell? ⟨w.heap.size, 2, none⟩ = some (.int .i64 x.oa) := (hb_w4.cell (p := ⟨w.heap.size, 2, none⟩) (by first | omega | (simp; omega) | simp)).trans (by first | assumption | (simp [go_sem]; done) | exact (World.cell?_alloc_lt _ _ ⟨_, _, _⟩ (by first | omega | (simp; omega) | simp)).trans (by assumption))
  have mw43 : w4.cell? ⟨w.heap.size, 3, none⟩ = some (.int .i64 x.ob) := (hb_w4.cell (p := ⟨w.heap.size, 3, none⟩) (by first | omega | (simp; omega) | simp)).trans (by first | assumption | (simp [go_sem]; done) | exact (World.cell?_alloc_lt _ _ ⟨_, _, _⟩ (by first | omega | (simp; omega) | simp)).trans (by assumption))
  have mw44 : w4.cell? ⟨w.heap.size, 4, none⟩ = some (.int .i64 x.fd) := (hb_w4.cell (p := ⟨w.heap.size, 4, none⟩) (by first | omega | (simp; omega) | simp)).trans (by first | assumption | (simp [go_sem]; done) | exact (World.cell?_alloc_lt _ _ ⟨_, _, _⟩ (by first | omega | (simp; omega) | simp)).trans (by assumption))
  have mw45 : w4.cell? ⟨w.heap.size, 5, none⟩ = some (.int .i64 x.n) := (hb_w4.cell (p := ⟨w.heap.size, 5, none⟩) (by first | omega | (simp; omega) | simp)).trans (by first | assumption | (simp [go_sem]; done) | exact (World.cell?_alloc_lt _ _ ⟨_, _, _⟩ (by first | omega | (simp; omega) | simp)).trans (by assumption))
  have mw46 : w4.cell? ⟨w.heap.size, 6, none⟩ = some (.int .u64 x.m) := (hb_w4.cell (p := ⟨w.heap.size, 6, none⟩) (by first | omega | (simp; omega) | simp)).trans (by first | assumption | (simp [go_sem]; done) | exact (World.cell?_alloc_lt _ _ ⟨_, _, _⟩ (by first | omega | (simp; omega) | simp)).trans (by assumption))
  have mw47 : w4.cell? ⟨w.heap.size, 7, none⟩ = some (.int .u64 x.w) := (hb_w4.cell (p := ⟨w.heap.size, 7, none⟩) (by first | omega | (simp; omega) | simp)).trans (by first | assumption | (simp [go_sem]; done) | exact (World.cell?_alloc_lt _ _ ⟨_, _, _⟩ (by first | omega | (simp; omega) | simp)).trans (by assumption))
  have mw48 : w4.cell? ⟨w.heap.size, 8, none⟩ = some (.int .i64 x.a) := (hb_w4.cell (p := ⟨w.heap.size, 8, none⟩) (by first | omega | (simp; omega) | simp)).trans (by first | assumption | (simp [go_sem]; done) | exact (World.cell?_alloc_lt _ _ ⟨_, _, _⟩ (by first | omega | (simp; omega) | simp)).trans (by assumption))
  have mw49 : w4.cell? ⟨w.heap.size, 9, none⟩ = some (.int .i64 x.b) := (hb_w4.cell (p := ⟨w.heap.size, 9, none⟩) (by first | omega | (simp; omega) | simp)).trans (by first | assumption | (simp [go_sem]; done) | exact (World.cell?_alloc_lt _ _ ⟨_, _, _⟩ (by first | omega | (simp; omega) | simp)).trans (by assumption))
  have mw410 : w4.cell? ⟨w.heap.size, 10, none⟩ = some (.int .i64 x.to) := (hb_w4.cell (p := ⟨w.heap.size, 10, none⟩) (by first | omega | (simp; omega) | simp)).trans (by first | assumption | (simp [go_sem]; done) | exact (World.cell?_alloc_lt _ _ ⟨_, _, _⟩ (by first | omega | (simp; omega) | simp)).trans (by assumption))
  try go_wp2_with fail
  refine hK.out _ _ ?_ (fun hHeld => ?_)
  · (try dsimp only); refine ⟨?_, ?_, ?_, ?_, ?_, ?_, ?_, ?_, ?_, ?_, ?_⟩ <;> first | assumption | (simp [go_sem]; done) | exact (World.cell?_alloc_lt _ _ ⟨_, _, _⟩ (by first | omega | (simp; omega) | simp)).trans (by assumption)
  clear hK K
  try simp only [Act.put, List.getElem_toArray, List.getElem_cons_zero, List.getElem_cons_succ, List.setIfInBounds_toArray, List.set_cons_zero, List.set_cons_succ]
  refine wpAnyH_take (i := 7) (v := ?_) rfl (by kernel_rfl) (by kernel_rfl) (by kernel_rfl) (fun _ _ _ h => h) (Or.inl ⟨by rfl, ?_⟩) (by assumption) ?_
  rotate_left
  · (intro w hSw; (try dsimp only at hSw); go_simp; first | done | with_reducible rfl)
  try simp only [Act.put, List.getElem_toArray, List.getElem_cons_zero, List.getElem_cons_succ, List.setIfInBounds_toArray, List.set_cons_zero, List.set_cons_succ]
  refine wpAnyH_take (i := 8) (v := ?_) rfl (by kernel_rfl) (by kernel_rfl) (by kernel_rfl) (fun _ _ _ h => h) (Or.inl ⟨by rfl, ?_⟩) (by assumption) ?_
  rotate_left
  · (intro w hSw; (try dsimp only at hSw); go_simp; first | done | with_reducible rfl)
  try simp only [Act.put, List.getElem_toArray, List.getElem_cons_zero, List.getElem_cons_succ, List.setIfInBounds_toArray, List.set_cons_zero, List.set_cons_succ]
  refine wpAnyH_done (by kernel_rfl) ?_ _
  go_wp2
  go_ret2
  exact ⟨rfl, (by repeat (first | exact Below.refl _ _ | assumption | (refine below_drewN ?_ _) | (refine Below.drew ?_) | (refine Below.alloc ?_ (by first | omega | (simp; omega) | simp) _) | (refine Below.setCell ?_ (by first | omega | (simp; omega) | simp) _) | (refine below_trans ?_ (by assumption) (by first | omega | (simp; omega) | simp))))⟩
set_option maxRecDepth 100000 in
set_option maxHeartbeats 4000000 in
theorem xlineP_bad (x : In) (hx : OpB x) (hok : ¬ OkI 256 x) : Calls Tryz.prog 15 #[inv x] w fun e w' => e = .returned (.tuple #[.string (bs []), .int .i64 2]) ∧ Below w.heap.size w w' := by
  obtain ⟨vb, hvb, HV⟩ := xright_both x 256 hx (by omega)
  obtain rfl : vb = false := by
    cases vb with
    | false => rfl
    | true => exact absurd (hvb.1 rfl) hok
  clear hvb hok hx
  unfold inv
  go_enter Tryz.func15, Tryz.ntmps15
  go_wp2_with fail
  go_at_call 33
  refine (HV.out _).mono ?_
  rintro e w1 ⟨rfl, hb_w1⟩
  obtain ⟨hc_w1, hf_w1⟩ := bcell hb_w1; have hz_w1_w_0 : w.heap.size < w1.heap.size := (by have hzz := hb_w1.size; (try simp only [World.size_alloc, World.size_setCell, World.size_drew, World.heap_drewN] at hzz); omega); have hs_w1 := hb_w1.size; (try simp only [World.size_alloc, World.size_setCell, World.size_drew, World.heap_drewN] at hs_w1)
  go_wp2
  go_ret2
  exact ⟨rfl, (by repeat (first | exact Below.refl _ _ | assumption | (refine below_drewN ?_ _) | (refine Below.drew ?_) | (refine Below.alloc ?_ (by first | omega | (simp; omega) | simp) _) | (refine Below.setCell ?_ (by first | omega | (simp; omega) | simp) _) | (refine below_trans ?_ (by assumption) (by first | omega | (simp; omega) | simp))))⟩
end
end Go.Proofs.YtggaijdbaplfiaaGreatDoor
