/- Contracts of package asm: text, Print. -/
import Derived.Test.YtggaijdbaplfiaaGreatDoorAs14
import Derived.Deep.RegionHeld3
namespace Go.Proofs.YtggaijdbaplfiaaGreatDoor
open Go.RowKit
set_option linter.unusedVariables false
set_option linter.unusedSimpArgs false
theorem builder_later {T e : TypeId} {B b : Nat} {p : Value} {bs : List Value} {w w' : World} (h : Lib.BuilderAtF T e B b p bs w) (hb : Below w.heap.size w w') : Lib.BuilderAtF T e B b p bs w' := by
  have hlt := h.lt
  obtain ⟨hB, v, hc, hown, hne⟩ := h
  refine ⟨hB, v, (hb.block b hlt).trans hc, ?_, hne⟩
  refine hown.kept (row := none) ⟨hb.os, hb.tape, hb.output, hb.size, fun k hk _ => hb.block k hk⟩ ?_
  cases hv : v.ownBlock
  · exact .inl rfl
  · exact .inr (by simp)
theorem isB_lt {B b : Nat} {l : List UInt8} {w : World} (h : IsB B b l w) : b < w.heap.size := by
  rcases h with h | h
  · exact h.lt
  · exact h.lt
theorem isB_later {B b : Nat} {l : List UInt8} {w w' : World} (h : IsB B b l w) (hb : Below w.heap.size w w') : IsB B b l w' := by
  rcases h with h | h
  · exact .inl (builder_later h hb)
  · exact .inr (builder_later h hb)
theorem isB_new (W : World) (B : Nat) (hB : B ≤ W.heap.size) : IsB B W.heap.size [] (W.alloc (.cells #[.pointer none, .slice none 0 0] 88)) :=
  .inl ⟨hB, .slice none 0 0, heap_alloc_new _ _, ⟨rfl, .inl ⟨rfl, rfl⟩⟩, by simp [Value.ownBlock]⟩
def prG (g : List Int) (l : List In) (k : Nat) : List UInt8 := (List.range k).flatMap (rowG g l)
theorem prG_succ (g : List Int) (l : List In) (k : Nat) : prG g l (k + 1) = prG g l k ++ (lblG g k ++ (lineI (nthI l k) (labG g (nthI l k).to) ++ [10])) := by
  unfold prG
  rw [List.range_succ, List.flatMap_append]
  simp [rowG]
theorem lblG_len (g : List Int) (p : Int) : (lblG g p).length ≤ 23 := by
  rw [lblG_eq]
  have := labG_len g p
  split
  · simp
  · rw [List.length_append]; simp; omega
theorem prG_len (g : List Int) (l : List In) : ∀ k, (prG g l k).length ≤ k * 5000
  | 0 => by simp [prG]
  | k + 1 => by
    have h1 := prG_len g l k
    have h2 := lblG_len g k
    have h3 := lineI_len (nthI l k) (labG g (nthI l k).to) (by have := labG_len g (nthI l k).to; omega)
    rw [prG_succ]
    simp only [List.length_append, List.length_cons, List.length_nil]
    omega
theorem goalsL_le (l : List In) : (goalsL l).Pairwise (· ≤ ·) := (goalsL_lt l).imp fun h => Int.le_of_lt h
def InL (l : List In) : Prop := ∀ x ∈ l, InR x
section
variable {w : World}
set_option maxRecDepth 100000 in
set_option maxHeartbeats 8000000 in
theorem text_any {A : Option Addr} {l : List In} (cap : Nat) (hr : PRow w w.heap.size A l) (hok : OkP l) (hx : InL l) (hL : Lw w) :
    Calls Tryz.prog 27 #[.slice A l.length cap] w fun e w' => e = .returned (.string (bs (printP l))) ∧ Below w.heap.size w w' := by
  have h256 := hok.1
  have HGO := Lib.hid fun (W : World) (h : PRow W W.heap.size A l) hL => goalsOf_any (w := W) cap h hok.1 (fun x hx' => (hx x hx').to) hL
  have HE := Lib.hid fun k (hk : k < l.length) => (hok.2 _ (nthI_mem l k hk)).wok (hx _ (nthI_mem l k hk)) (by omega) (by omega)
  have hgl := goalsL_len l
  have hgs := goalsL_le l
  unfold printP printG
  generalize goalsL l = g at *
  have HLL := Lib.hid fun (W : World) (G : Option Addr) (gc : Nat) (h : IRow W W.heap.size G g) p hL => labelLine_any (w := W) gc h hgs (by omega) p hL
  have HLA := Lib.hid fun (W : World) (G : Option Addr) (gc : Nat) (h : IRow W W.heap.size G g) p hL => label_any (w := W) gc h hgs (by omega) p hL
  have HPS := Lib.hid fun k => prG_succ g l k
  have HPL := Lib.hid fun k => prG_len g l k
  have HLB0 := Lib.hid fun p => lblG_len g p
  have HLA0 := Lib.hid fun p => labG_len g p
  have HEND : Hid (prG g l l.length ++ lblG g l.length = (List.range l.length).flatMap (rowG g l) ++ lblG g l.length) := Lib.hid rfl
  clear hok hx hgs
  go_enter Tryz.func27, Tryz.ntmps27
  go_wp2_with fail
  go_at_call 44
  refine (HGO.out _ hr hL).mono ?_
  rintro e w1 ⟨G, gc, rfl, hG, hb_w1⟩
  obtain ⟨hc_w1, hf_w1⟩ := bcell hb_w1; have hs_w1 := hb_w1.size; (try simp only [World.size_alloc, World.size_setCell, World.size_drew, World.heap_drewN] at hs_w1)
  have hL1 := hL.later hb_w1
  have hr1 := hr.later hb_w1
  have iB := isB_new w1 w1.heap.size (Nat.le_refl _)
  have HGI := Lib.hid hG
  clear hG
  have b01 := hb_w1
  go_wp2_with fail
  go_loopw [11] (fun ii wr => ∃ k : Nat, ii = .int .i64 (k : Nat) ∧ k ≤ l.length ∧ Hid (IsB w1.heap.size w1.heap.size (prG g l k) wr) ∧ w1.heap.size < wr.heap.size ∧ Below w1.heap.size w1 wr) (fun ii _ => l.length - (intOf ii).toNat)
  case atStart => exact ⟨0, rfl, Nat.zero_le _, Lib.hid (by simpa [prG] using iB), by simp, (by repeat (first | exact Below.refl _ _ | assumption | (refine below_drewN ?_ _) | (refine Below.drew ?_) | (refine Below.alloc ?_ (by first | omega | (simp; omega) | simp) _) | (refine Below.setCell ?_ (by first | omega | (simp; omega) | simp) _) | (refine below_trans ?_ (by assumption) (by first | omega | (simp; omega) | simp))))⟩
  case round =>
    clear iB
    obtain ⟨k, rfl, hk, IB, hsz, hb_wr⟩ := hrel
    by_cases hlt : k < l.length
    · obtain ⟨b, off, rfl, hbb, hc⟩ := (hr1.later hb_wr).at_ (by omega)
      have c5 := hc k hlt
      clear hc
      have he := HE.out k hlt
      have HPK := Lib.hid (HPS.out k)
      have hpl := HPL.out k
      have hpl2 := HPL.out (k + 1)
      have hll := HLB0.out k
      have hk0 : (0 : Int) ≤ (k : Int) := by omega
      have hk1 : (k : Int) < (l.length : Int) := by omega
      have hLr := hL1.later hb_wr
      generalize nthI l k = d at *
      obtain ⟨c0, c1, c2, c3, c4, c5, c6, c7, c8, c9, c10⟩ := c5
      have HLN := Lib.hid fun (W : World) hL => line_any (w := W) d (labG g d.to) (by have := HLA0.out d.to; omega) he hL
      have hln := lineI_len d (labG g d.to) (by have := HLA0.out d.to; omega)
      have HLB := Lib.hid fun (W : World) h hL => HLA.out W G gc h d.to hL
      have HXB := Lib.hid fun (W W' : World) (h : W.heap[wr.heap.size]? = some (.cells #[.int .u8 d.kd, .int .u8 d.op, .int .i64 d.oa, .int .i64 d.ob, .int .i64 d.fd, .int .i64 d.n, .int .u64 d.m, .int .u64 d.w, .int .i64 d.a, .int .i64 d.b, .int .i64 d.to] 37 (0, 0))) (ho : Others w1.heap.size W W') => ho _ _ _ _ h (by decide) (by omega)
      have HXC := Lib.hid fun (W : World) (h : W.heap[wr.heap.size]? = some (.cells #[.int .u8 d.kd, .int .u8 d.op, .int .i64 d.oa, .int .i64 d.ob, .int .i64 d.fd, .int .i64 d.n, .int .u64 d.m, .int .u64 d.w, .int .i64 d.a, .int .i64 d.b, .int .i64 d.to] 37 (0, 0))) (j : Nat) (v : Value) (hj : [.int .u8 d.kd, .int .u8 d.op, .int .i64 d.oa, .int .i64 d.ob, .int .i64 d.fd, .int .i64 d.n, .int .u64 d.m, .int .u64 d.w, .int .i64 d.a, .int .i64 d.b, .int .i64 d.to][j]? = some v) => (show W.cell? ⟨wr.heap.size, j, none⟩ = some v from by rw [Lib.cell_of_heap h]; simpa using hj)
      clear he
      have HLL3 := Lib.hid fun (W : World) h hL => HLL.out W G gc h k hL
      generalize lblG g k = LB at *
      generalize hLN : lineI d (labG g d.to) = LN at *
      clear hLN
      have HL0 : Hid ((prG g l k).length + (bs LB).size ≤ 140737488355328) := Lib.hid (by rw [bs_size]; omega)
      have HL3 : Hid ((prG g l k ++ (bs LB).data.toList).length + (bs LN ++ ⟨#[10]⟩ : ByteArray).size ≤ 140737488355328) := Lib.hid (by
        rw [show (⟨#[10]⟩ : ByteArray) = bs [10] from rfl, bs_append, bs_size, bs_data]
        simp only [List.length_append, List.length_cons, List.length_nil]
        omega)
      have HP2 : Hid (prG g l k ++ (bs LB).data.toList ++ (bs LN ++ ⟨#[10]⟩ : ByteArray).data.toList = prG g l (k + 1)) := Lib.hid (by
        rw [HPK.out, show (⟨#[10]⟩ : ByteArray) = bs [10] from rfl, bs_append, bs_data, bs_data, List.append_assoc])
      have z1 : ¬ (9223372036854775807 < (bs LN).size + 1) := by rw [bs_size]; omega
      clear hpl hpl2 hll hln HPK
      go_wp2_with fail
      go_at_call 46
      refine (HLL3.out _ (HGI.out.later (by repeat (first | exact Below.refl _ _ | assumption | (refine below_drewN ?_ _) | (refine Below.drew ?_) | (refine Below.alloc ?_ (by first | omega | (simp; omega) | simp) _) | (refine Below.setCell ?_ (by first | omega | (simp; omega) | simp) _) | (refine below_trans ?_ (by assumption) (by first | omega | (simp; omega) | simp))))) (hLr.later (by repeat (first | exact Below.refl _ _ | assumption | (refine below_drewN ?_ _) | (refine Below.drew ?_) | (refine Below.alloc ?_ (by first | omega | (simp; omega) | simp) _) | (refine Below.setCell ?_ (by first | omega | (simp; omega) | simp) _) | (refine below_trans ?_ (by assumption) (by first | omega | (simp; omega) | simp)))))).mono ?_
      rintro e w2 ⟨rfl, hb_w2⟩
      obtain ⟨hc_w2, hf_w2⟩ := bcell hb_w2; have hz_w2_wr_0 : wr.heap.size < w2.heap.size := (by have hzz := hb_w2.size; (try simp only [World.size_alloc, World.size_setCell, World.size_drew, World.heap_drewN] at hzz); omega); have hs_w2 := hb_w2.size; (try simp only [World.size_alloc, World.size_setCell, World.size_drew, World.heap_drewN] at hs_w2)
      have b12 : Below w1.heap.size w1 w2 := (by repeat (first | exact Below.refl _ _ | assumption | (refine below_drewN ?_ _) | (refine Below.drew ?_) | (refine Below.alloc ?_ (by first | omega | (simp; omega) | simp) _) | (refine Below.setCell ?_ (by first | omega | (simp; omega) | simp) _) | (refine below_trans ?_ (by assumption) (by first | omega | (simp; omega) | simp))))
      have IB2 : IsB w1.heap.size w1.heap.size (prG g l k) w2 := isB_later IB.out (show Below wr.heap.size wr w2 from below_trans (Below.alloc (Below.refl _ _) (Nat.le_refl _) _) hb_w2 (by simp))
      have HX2 : Hid (w2.heap[wr.heap.size]? = some (.cells #[.int .u8 d.kd, .int .u8 d.op, .int .i64 d.oa, .int .i64 d.ob, .int .i64 d.fd, .int .i64 d.n, .int .u64 d.m, .int .u64 d.w, .int .i64 d.a, .int .i64 d.b, .int .i64 d.to] 37 (0, 0))) := Lib.hid ((hb_w2.block _ (by simp)).trans (heap_alloc_new wr _))
      go_wp2_with fail
      go_at_call 45
      refine (writeString_any w1.heap.size w1.heap.size _ _ IB2 HL0.out (by omega)).mono ?_
      rintro e w3 ⟨v3, rfl, iB3, hb_w3, ho_w3⟩
      have IB3 := Lib.hid iB3
      have hs3 := hb_w3.size
      have b13 : Below w1.heap.size w1 w3 := b12.trans hb_w3
      have HX3 := Lib.hid (HXB.out _ _ HX2.out ho_w3)
      have hx3 : wr.heap.size < w3.heap.size := heap_lt HX3.out
      have n30 : w3.cell? ⟨wr.heap.size, 0, none⟩ = some (.int .u8 d.kd) := HXC.out _ HX3.out 0 _ rfl
      have n31 : w3.cell? ⟨wr.heap.size, 1, none⟩ = some (.int .u8 d.op) := HXC.out _ HX3.out 1 _ rfl
      have n32 : w3.cell? ⟨wr.heap.size, 2, none⟩ = some (.int .i64 d.oa) := HXC.out _ HX3.out 2 _ rfl
      have n33 : w3.cell? ⟨wr.heap.size, 3, none⟩ = some (.int .i64 d.ob) := HXC.out _ HX3.out 3 _ rfl
      have n34 : w3.cell? ⟨wr.heap.size, 4, none⟩ = some (.int .i64 d.fd) := HXC.out _ HX3.out 4 _ rfl
      have n35 : w3.cell? ⟨wr.heap.size, 5, none⟩ = some (.int .i64 d.n) := HXC.out _ HX3.out 5 _ rfl
      have n36 : w3.cell? ⟨wr.heap.size, 6, none⟩ = some (.int .u64 d.m) := HXC.out _ HX3.out 6 _ rfl
      have n37 : w3.cell? ⟨wr.heap.size, 7, none⟩ = some (.int .u64 d.w) := HXC.out _ HX3.out 7 _ rfl
      have n38 : w3.cell? ⟨wr.heap.size, 8, none⟩ = some (.int .i64 d.a) := HXC.out _ HX3.out 8 _ rfl
      have n39 : w3.cell? ⟨wr.heap.size, 9, none⟩ = some (.int .i64 d.b) := HXC.out _ HX3.out 9 _ rfl
      have n310 : w3.cell? ⟨wr.heap.size, 10, none⟩ = some (.int .i64 d.to) := HXC.out _ HX3.out 10 _ rfl
      have hG := HGI
      clear iB3 ho_w3 IB2 hb_w3 hb_w2 hc_w2 hf_w2
      go_wp2_with fail
      refine wp_region_held_drew (S := (fun X : World => X.cell? ⟨wr.heap.size, 0, none⟩ = some (.int .u8 d.kd) ∧ X.cell? ⟨wr.heap.size, 1, none⟩ = some (.int .u8 d.op) ∧ X.cell? ⟨wr.heap.size, 2, none⟩ = some (.int .i64 d.oa) ∧ X.cell? ⟨wr.heap.size, 3, none⟩ = some (.int .i64 d.ob) ∧ X.cell? ⟨wr.heap.size, 4, none⟩ = some (.int .i64 d.fd) ∧ X.cell? ⟨wr.heap.size, 5, none⟩ = some (.int .i64 d.n) ∧ X.cell? ⟨wr.heap.size, 6, none⟩ = some (.int .u64 d.m) ∧ X.cell? ⟨wr.heap.size, 7, none⟩ = some (.int .u64 d.w) ∧ X.cell? ⟨wr.heap.size, 8, none⟩ = some (.int .i64 d.a) ∧ X.cell? ⟨wr.heap.size, 9, none⟩ = some (.int .i64 d.b) ∧ X.cell? ⟨wr.heap.size, 10, none⟩ = some (.int .i64 d.to))) (by kernel_rfl) ?_ (fun hHeld => ?_)
      · (try dsimp only); refine ⟨?_, ?_, ?_, ?_, ?_, ?_, ?_, ?_, ?_, ?_, ?_⟩ <;> first | assumption | (simp [go_sem]; done) | exact (World.cell?_alloc_lt _ _ ⟨_, _, _⟩ (by first | omega | (simp; omega) | simp)).trans (by assumption)
      refine wpAnyH_take (i := 0) (v := ?_) rfl (by kernel_rfl) (by kernel_rfl) (by kernel_rfl) (fun _ _ _ h => h) (Or.inl ⟨by rfl, ?_⟩) (by assumption) ?_
      rotate_left
      · (intro w hSw; (try dsimp only at hSw); go_simp; first | done | with_reducible rfl)
      try simp only [Act.put, List.getElem_toArray, List.getElem_cons_zero, List.getElem_cons_succ, List.setIfInBounds_toArray, List.set_cons_zero, List.set_cons_succ]
      refine wpAnyH_take (i := 1) (v := ?_) rfl (by kernel_rfl) (by kernel_rfl) (by kernel_rfl) (fun _ _ _ h => h) (Or.inl ⟨by rfl, ?_⟩) (by assumption) ?_
      rotate_left
      · (intro w hSw; (try dsimp only at hSw); go_simp; first | done | with_reducible rfl)
      try simp only [Act.put, List.getElem_toArray, List.getElem_cons_zero, List.getElem_cons_succ, List.setIfInBounds_toArray, List.set_cons_zero, List.set_cons_succ]
      refine wpAnyH_take (i := 2) (v := ?_) rfl (by kernel_rfl) (by kernel_rfl) (by kernel_rfl) (fun _ _ _ h => h) (Or.inl ⟨by rfl, ?_⟩) (by assumption) ?_
      rotate_left
      · (intro w hSw; (try dsimp only at hSw); go_simp; first | done | with_reducible rfl)
      try simp only [Act.put, List.getElem_toArray, List.getElem_cons_zero, List.getElem_cons_succ, List.setIfInBounds_toArray, List.set_cons_zero, List.set_cons_succ]
      refine wpAnyH_take (i := 3) (v := ?_) rfl (by kernel_rfl) (by kernel_rfl) (by kernel_rfl) (fun _ _ _ h => h) (Or.inl ⟨by rfl, ?_⟩) (by assumption) ?_
      rotate_left
      · (intro w hSw; (try dsimp only at hSw); go_simp; first | done | with_reducible rfl)
      try simp only [Act.put, List.getElem_toArray, List.getElem_cons_zero, List.getElem_cons_succ, List.setIfInBounds_toArray, List.set_cons_zero, List.set_cons_succ]
      refine wpAnyH_ready (rs := [4]) (by kernel_rfl) (by simp) ?_
      refine AllReadyH.cons rfl (fun K hK => ?_) AllReadyH.nil
      try simp only [List.getElem_toArray, List.getElem_cons_zero, List.getElem_cons_succ]
      go_simp
      go_at_call 47
      refine (HLB.out _ (hG.out.later (by repeat (first | exact Below.refl _ _ | assumption | (refine below_drewN ?_ _) | (refine Below.drew ?_) | (refine Below.alloc ?_ (by first | omega | (simp; omega) | simp) _) | (refine Below.setCell ?_ (by first | omega | (simp; omega) | simp) _) | (refine below_trans ?_ (by assumption) (by first | omega | (simp; omega) | simp))))) (hL1.later (by repeat (first | exact Below.refl _ _ | assumption | (refine below_drewN ?_ _) | (refine Below.drew ?_) | (refine Below.alloc ?_ (by first | omega | (simp; omega) | simp) _) | (refine Below.setCell ?_ (by first | omega | (simp; omega) | simp) _) | (refine below_trans ?_ (by assumption) (by first | omega | (simp; omega) | simp)))))).mono ?_
      rintro e w4 ⟨rfl, hb_w4⟩
      have hs_w4 : w3.heap.size ≤ w4.heap.size := (by have := hb_w4.size; (try simp only [World.size_drew, World.heap_drewN, World.size_alloc] at this); omega)
      have b14 : Below w1.heap.size w1 w4 := (by repeat (first | exact Below.refl _ _ | assumption | (refine below_drewN ?_ _) | (refine Below.drew ?_) | (refine Below.alloc ?_ (by first | omega | (simp; omega) | simp) _) | (refine Below.setCell ?_ (by first | omega | (simp; omega) | simp) _) | (refine below_trans ?_ (by assumption) (by first | omega | (simp; omega) | simp))))
      have b34 : Below w3.heap.size w3 w4 := below_trans (show Below w3.heap.size w3 w3.drew from Below.drew (Below.refl _ _)) hb_w4 (Nat.le_refl _)
      have mw40 : w4.cell? ⟨wr.heap.size, 0, none⟩ = some (.int .u8 d.kd) := (hb_w4.cell (p := ⟨wr.heap.size, 0, none⟩) (by first | omega | (simp; omega) | simp)).trans (by first | assumption | (simp [go_sem]; done) | exact (World.cell?_alloc_lt _ _ ⟨_, _, _⟩ (by first | omega | (simp; omega) | simp)).trans (by assumption))
      have mw41 : w4.cell? ⟨wr.heap.size, 1, none⟩ = some (.int .u8 d.op) := (hb_w4.cell (p := ⟨wr.heap.size, 1, none⟩) (by first | omega | (simp; omega) | simp)).trans (by first | assumption | (simp [go_sem]; done) | exact (World.cell?_alloc_lt _ _ ⟨_, _, _⟩ (by first | omega | (simp; omega) | simp)).trans (by assumption))
      have mw42 : w4.cell? ⟨wr.heap.size, 2, none⟩ = some (.int .i64 d.oa) := (hb_w4.cell (p := ⟨wr.heap.size, 2, none⟩) (by first | omega | (simp; omega) | simp)).trans (by first | assumption | (simp [go_sem]; done) | exact (World.cell?_alloc_lt _ _ ⟨_, _, _⟩ (by first | omega | (simp; omega) | simp)).trans (by assumption))
      have mw43 : w4.cell? ⟨wr.heap.size, 3, none⟩ = some (.int .i64 d.ob) := (hb_w4.cell (p := ⟨wr.heap.size, 3, none⟩) (by first | omega | (simp; omega) | simp)).trans (by first | assumption | (simp [go_sem]; done) | exact (World.cell?_alloc_lt _ _ ⟨_, _, _⟩ (by first | omega | (simp; omega) | simp)).trans (by assumption))
      have mw44 : w4.cell? ⟨wr.heap.size, 4, none⟩ = some (.int .i64 d.fd) := (hb_w4.cell (p := ⟨wr.heap.size, 4, none⟩) (by first | omega | (simp; omega) | simp)).trans (by first | assumption | (simp [go_sem]; done) | exact (World.cell?_alloc_lt _ _ ⟨_, _, _⟩ (by first | omega | (simp; omega) | simp)).trans (by assumption))
      have mw45 : w4.cell? ⟨wr.heap.size, 5, none⟩ = some (.int .i64 d.n) := (hb_w4.cell (p := ⟨wr.heap.size, 5, none⟩) (by first | omega | (simp; omega) | simp)).trans (by first | assumption | (simp [go_sem]; done) | exact (World.cell?_alloc_lt _ _ ⟨_, _, _⟩ (by first | omega | (simp; omega) | simp)).trans (by assumption))
      have mw46 : w4.cell? ⟨wr.heap.size, 6, none⟩ = some (.int .u64 d.m) := (hb_w4.cell (p := ⟨wr.heap.size, 6, none⟩) (by first | omega | (simp; omega) | simp)).trans (by first | assumption | (simp [go_sem]; done) | exact (World.cell?_alloc_lt _ _ ⟨_, _, _⟩ (by first | omega | (simp; omega) | simp)).trans (by assumption))
      have mw47 : w4.cell? ⟨wr.heap.size, 7, none⟩ = some (.int .u64 d.w) := (hb_w4.cell (p := ⟨wr.heap.size, 7, none⟩) (by first | omega | (simp; omega) | simp)).trans (by first | assumption | (simp [go_sem]; done) | exact (World.cell?_alloc_lt _ _ ⟨_, _, _⟩ (by first | omega | (simp; omega) | simp)).trans (by assumption))
      have mw48 : w4.cell? ⟨wr.heap.size, 8, none⟩ = some (.int .i64 d.a) := (hb_w4.cell (p := ⟨wr.heap.size, 8, none⟩) (by first | omega | (simp; omega) | simp)).trans (by first | assumption | (simp [go_sem]; done) | exact (World.cell?_alloc_lt _ _ ⟨_, _, _⟩ (by first | omega | (simp; omega) | simp)).trans (by assumption))
      have mw49 : w4.cell? ⟨wr.heap.size, 9, none⟩ = some (.int .i64 d.b) := (hb_w4.cell (p := ⟨wr.heap.size, 9, none⟩) (by first | omega | (simp; omega) | simp)).trans (by first | assumption | (simp [go_sem]; done) | exact (World.cell?_alloc_lt _ _ ⟨_, _, _⟩ (by first | omega | (simp; omega) | simp)).trans (by assumption))
      have mw410 : w4.cell? ⟨wr.heap.size, 10, none⟩ = some (.int .i64 d.to) := (hb_w4.cell (p := ⟨wr.heap.size, 10, none⟩) (by first | omega | (simp; omega) | simp)).trans (by first | assumption | (simp [go_sem]; done) | exact (World.cell?_alloc_lt _ _ ⟨_, _, _⟩ (by first | omega | (simp; omega) | simp)).trans (by assumption))
      try go_wp2_with fail
      refine hK.out _ _ ?_ (fun hHeld => ?_)
      · (try dsimp only); refine ⟨?_, ?_, ?_, ?_, ?_, ?_, ?_, ?_, ?_, ?_, ?_⟩ <;> first | assumption | (simp [go_sem]; done) | exact (World.cell?_alloc_lt _ _ ⟨_, _, _⟩ (by first | omega | (simp; omega) | simp)).trans (by assumption)
      clear hK K
      try simp only [Act.put, List.getElem_toArray, List.getElem_cons_zero, List.getElem_cons_succ, List.setIfInBounds_toArray, List.set_cons_zero, List.set_cons_succ]
      refine wpAnyH_ready (rs := [5]) (by kernel_rfl) (by simp) ?_
      refine AllReadyH.cons rfl (fun K hK => ?_) AllReadyH.nil
      try simp only [List.getElem_toArray, List.getElem_cons_zero, List.getElem_cons_succ]
      go_simp
      go_at_call 31
      refine (HLN.out _ (hL1.later (by repeat (first | exact Below.refl _ _ | assumption | (refine below_drewN ?_ _) | (refine Below.drew ?_) | (refine Below.alloc ?_ (by first | omega | (simp; omega) | simp) _) | (refine Below.setCell ?_ (by first | omega | (simp; omega) | simp) _) | (refine below_trans ?_ (by assumption) (by first | omega | (simp; omega) | simp)))))).mono ?_
      rintro e w5 ⟨rfl, hb_w5⟩
      have hs_w5 : w4.heap.size ≤ w5.heap.size := (by have := hb_w5.size; (try simp only [World.size_drew, World.heap_drewN, World.size_alloc] at this); omega)
      have b15 : Below w1.heap.size w1 w5 := (by repeat (first | exact Below.refl _ _ | assumption | (refine below_drewN ?_ _) | (refine Below.drew ?_) | (refine Below.alloc ?_ (by first | omega | (simp; omega) | simp) _) | (refine Below.setCell ?_ (by first | omega | (simp; omega) | simp) _) | (refine below_trans ?_ (by assumption) (by first | omega | (simp; omega) | simp))))
      have b35 : Below w3.heap.size w3 w5 := below_trans b34 (show Below w4.heap.size w4 w5 from (by repeat (first | exact Below.refl _ _ | assumption | (refine below_drewN ?_ _) | (refine Below.drew ?_) | (refine Below.alloc ?_ (by first | omega | (simp; omega) | simp) _) | (refine Below.setCell ?_ (by first | omega | (simp; omega) | simp) _) | (refine below_trans ?_ (by assumption) (by first | omega | (simp; omega) | simp))))) hs_w4
      have HX5 : Hid (w5.heap[wr.heap.size]? = some (.cells #[.int .u8 d.kd, .int .u8 d.op, .int .i64 d.oa, .int .i64 d.ob, .int .i64 d.fd, .int .i64 d.n, .int .u64 d.m, .int .u64 d.w, .int .i64 d.a, .int .i64 d.b, .int .i64 d.to] 37 (0, 0))) := Lib.hid ((hb_w5.block _ (by (try simp only [World.size_drew, World.heap_drewN, World.size_alloc]); omega)).trans ((hb_w4.block _ (by (try simp only [World.size_drew, World.heap_drewN, World.size_alloc]); omega)).trans HX3.out))
      have mw50 : w5.cell? ⟨wr.heap.size, 0, none⟩ = some (.int .u8 d.kd) := (hb_w5.cell (p := ⟨wr.heap.size, 0, none⟩) (by first | omega | (simp; omega) | simp)).trans (by first | assumption | (simp [go_sem]; done) | exact (World.cell?_alloc_lt _ _ ⟨_, _, _⟩ (by first | omega | (simp; omega) | simp)).trans (by assumption))
      have mw51 : w5.cell? ⟨wr.heap.size, 1, none⟩ = some (.int .u8 d.op) := (hb_w5.cell (p := ⟨wr.heap.size, 1, none⟩) (by first | omega | (simp; omega) | simp)).trans (by first | assumption | (simp [go_sem]; done) | exact (World.cell?_alloc_lt _ _ ⟨_, _, _⟩ (by first | omega | (simp; omega) | simp)).trans (by assumption))
      have mw52 : w5.cell? ⟨wr.heap.size, 2, none⟩ = some (.int .i64 d.oa) := (hb_w5.cell (p := ⟨wr.heap.size, 2, none⟩) (by first | omega | (simp; omega) | simp)).trans (by first | assumption | (simp [go_sem]; done) | exact (World.cell?_alloc_lt _ _ ⟨_, _, _⟩ (by first | omega | (simp; omega) | simp)).trans (by assumption))
      have mw53 : w5.cell? ⟨wr.heap.size, 3, none⟩ = some (.int .i64 d.ob) := (hb_w5.cell (p := ⟨wr.heap.size, 3, none⟩) (by first | omega | (simp; omega) | simp)).trans (by first | assumption | (simp [go_sem]; done) | exact (World.cell?_alloc_lt _ _ ⟨_, _, _⟩ (by first | omega | (simp; omega) | simp)).trans (by assumption))
      have mw54 : w5.cell? ⟨wr.heap.size, 4, none⟩ = some (.int .i64 d.fd) := (hb_w5.cell (p := ⟨wr.heap.size, 4, none⟩) (by first | omega | (simp; omega) | simp)).trans (by first | assumption | (simp [go_sem]; done) | exact (World.cell?_alloc_lt _ _ ⟨_, _, _⟩ (by first | omega | (simp; omega) | simp)).trans (by assumption))
      have mw55 : w5.cell? ⟨wr.heap.size, 5, none⟩ = some (.int .i64 d.n) := (hb_w5.cell (p := ⟨wr.heap.size, 5, none⟩) (by first | omega | (simp; omega) | simp)).trans (by first | assumption | (simp [go_sem]; done) | exact (World.cell?_alloc_lt _ _ ⟨_, _, _⟩ (by first | omega | (simp; omega) | simp)).trans (by assumption))
      have mw56 : w5.cell? ⟨wr.heap.size, 6, none⟩ = some (.int .u64 d.m) := (hb_w5.cell (p := ⟨wr.heap.size, 6, none⟩) (by first | omega | (simp; omega) | simp)).trans (by first | assumption | (simp [go_sem]; done) | exact (World.cell?_alloc_lt _ _ ⟨_, _, _⟩ (by first | omega | (simp; omega) | simp)).trans (by assumption))
      have mw57 : w5.cell? ⟨wr.heap.size, 7, none⟩ = some (.int .u64 d.w) := (hb_w5.cell (p := ⟨wr.heap.size, 7, none⟩) (by first | omega | (simp; omega) | simp)).trans (by first | assumption | (simp [go_sem]; done) | exact (World.cell?_alloc_lt _ _ ⟨_, _, _⟩ (by first | omega | (simp; omega) | simp)).trans (by assumption))
      have mw58 : w5.cell? ⟨wr.heap.size, 8, none⟩ = some (.int .i64 d.a) := (hb_w5.cell (p := ⟨wr.heap.size, 8, none⟩) (by first | omega | (simp; omega) | simp)).trans (by first | assumption | (simp [go_sem]; done) | exact (World.cell?_alloc_lt _ _ ⟨_, _, _⟩ (by first | omega | (simp; omega) | simp)).trans (by assumption))
      have mw59 : w5.cell? ⟨wr.heap.size, 9, none⟩ = some (.int .i64 d.b) := (hb_w5.cell (p := ⟨wr.heap.size, 9, none⟩) (by first | omega | (simp; omega) | simp)).trans (by first | assumption | (simp [go_sem]; done) | exact (World.cell?_alloc_lt _ _ ⟨_, _, _⟩ (by first | omega | (simp; omega) | simp)).trans (by assumption))
      have mw510 : w5.cell? ⟨wr.heap.size, 10, none⟩ = some (.int .i64 d.to) := (hb_w5.cell (p := ⟨wr.heap.size, 10, none⟩) (by first | omega | (simp; omega) | simp)).trans (by first | assumption | (simp [go_sem]; done) | exact (World.cell?_alloc_lt _ _ ⟨_, _, _⟩ (by first | omega | (simp; omega) | simp)).trans (by assumption))
      try go_wp2_with fail
      refine hK.out _ _ ?_ (fun hHeld => ?_)
      · (try dsimp only); refine ⟨?_, ?_, ?_, ?_, ?_, ?_, ?_, ?_, ?_, ?_, ?_⟩ <;> first | assumption | (simp [go_sem]; done) | exact (World.cell?_alloc_lt _ _ ⟨_, _, _⟩ (by first | omega | (simp; omega) | simp)).trans (by assumption)
      clear hK K
      try simp only [Act.put, List.getElem_toArray, List.getElem_cons_zero, List.getElem_cons_succ, List.setIfInBounds_toArray, List.set_cons_zero, List.set_cons_succ]
      refine wpAnyH_take (i := 6) (v := ?_) rfl (by kernel_rfl) (by kernel_rfl) (by kernel_rfl) (fun _ _ _ h => h) (Or.inl ⟨by rfl, ?_⟩) (by assumption) ?_
      rotate_left
      · (intro w hSw; (try dsimp only at hSw); go_simp; first | done | with_reducible rfl)
      try simp only [Act.put, List.getElem_toArray, List.getElem_cons_zero, List.getElem_cons_succ, List.setIfInBounds_toArray, List.set_cons_zero, List.set_cons_succ]
      refine wpAnyH_ready (rs := [7]) (by kernel_rfl) (by simp) ?_
      refine AllReadyH.cons rfl (fun K hK => ?_) AllReadyH.nil
      try simp only [List.getElem_toArray, List.getElem_cons_zero, List.getElem_cons_succ]
      go_simp
      go_at_call 45
      refine (writeString_any w1.heap.size w1.heap.size _ _ (isB_later IB3.out b35) HL3.out (by (try simp only [World.size_drew, World.heap_drewN, World.size_alloc]); omega)).mono ?_
      rintro e w6 ⟨v6, rfl, iB6, hb_w6, ho_w6⟩
      have IB6 := Lib.hid iB6
      have b16 : Below w1.heap.size w1 w6 := (by repeat (first | exact Below.refl _ _ | assumption | (refine below_drewN ?_ _) | (refine Below.drew ?_) | (refine Below.alloc ?_ (by first | omega | (simp; omega) | simp) _) | (refine Below.setCell ?_ (by first | omega | (simp; omega) | simp) _) | (refine below_trans ?_ (by assumption) (by first | omega | (simp; omega) | simp))))
      have HX6 := Lib.hid (HXB.out _ _ HX5.out ho_w6)
      clear iB6 ho_w6
      have n60 : w6.cell? ⟨wr.heap.size, 0, none⟩ = some (.int .u8 d.kd) := HXC.out _ HX6.out 0 _ rfl
      have n61 : w6.cell? ⟨wr.heap.size, 1, none⟩ = some (.int .u8 d.op) := HXC.out _ HX6.out 1 _ rfl
      have n62 : w6.cell? ⟨wr.heap.size, 2, none⟩ = some (.int .i64 d.oa) := HXC.out _ HX6.out 2 _ rfl
      have n63 : w6.cell? ⟨wr.heap.size, 3, none⟩ = some (.int .i64 d.ob) := HXC.out _ HX6.out 3 _ rfl
      have n64 : w6.cell? ⟨wr.heap.size, 4, none⟩ = some (.int .i64 d.fd) := HXC.out _ HX6.out 4 _ rfl
      have n65 : w6.cell? ⟨wr.heap.size, 5, none⟩ = some (.int .i64 d.n) := HXC.out _ HX6.out 5 _ rfl
      have n66 : w6.cell? ⟨wr.heap.size, 6, none⟩ = some (.int .u64 d.m) := HXC.out _ HX6.out 6 _ rfl
      have n67 : w6.cell? ⟨wr.heap.size, 7, none⟩ = some (.int .u64 d.w) := HXC.out _ HX6.out 7 _ rfl
      have n68 : w6.cell? ⟨wr.heap.size, 8, none⟩ = some (.int .i64 d.a) := HXC.out _ HX6.out 8 _ rfl
      have n69 : w6.cell? ⟨wr.heap.size, 9, none⟩ = some (.int .i64 d.b) := HXC.out _ HX6.out 9 _ rfl
      have n610 : w6.cell? ⟨wr.heap.size, 10, none⟩ = some (.int .i64 d.to) := HXC.out _ HX6.out 10 _ rfl
      try go_wp2_with fail
      refine hK.out _ _ ?_ (fun hHeld => ?_)
      · (try dsimp only); refine ⟨?_, ?_, ?_, ?_, ?_, ?_, ?_, ?_, ?_, ?_, ?_⟩ <;> first | assumption | (simp [go_sem]; done) | exact (World.cell?_alloc_lt _ _ ⟨_, _, _⟩ (by first | omega | (simp; omega) | simp)).trans (by assumption)
      clear hK K
      try simp only [Act.put, List.getElem_toArray, List.getElem_cons_zero, List.getElem_cons_succ, List.setIfInBounds_toArray, List.set_cons_zero, List.set_cons_succ]
      refine wpAnyH_done (by kernel_rfl) ?_ _
      go_wp2
      go_roundw
      case rel => exact ⟨k + 1, by go_num, by omega, Lib.hid (by rw [← HP2.out]; exact IB6.out), isB_lt IB6.out, b16⟩
      case measure => simp [intOf]; omega
    · obtain rfl : k = l.length := by omega
      have hpl := HPL.out l.length
      have hll := HLB0.out l.length
      have HL0 : Hid ((prG g l l.length).length + (bs (lblG g l.length)).size ≤ 140737488355328) := Lib.hid (by rw [bs_size]; omega)
      have HQ : Hid (prG g l l.length ++ (bs (lblG g l.length)).data.toList = (List.range l.length).flatMap (rowG g l) ++ lblG g l.length) := Lib.hid (by rw [bs_data]; exact HEND.out)
      have HLL2 := Lib.hid fun (W : World) h hL => HLL.out W G gc h l.length hL
      clear hpl hll HEND
      go_wp2_with fail
      go_at_call 46
      refine (HLL2.out _ (HGI.out.later (by repeat (first | exact Below.refl _ _ | assumption | (refine below_drewN ?_ _) | (refine Below.drew ?_) | (refine Below.alloc ?_ (by first | omega | (simp; omega) | simp) _) | (refine Below.setCell ?_ (by first | omega | (simp; omega) | simp) _) | (refine below_trans ?_ (by assumption) (by first | omega | (simp; omega) | simp))))) (hL1.later (by repeat (first | exact Below.refl _ _ | assumption | (refine below_drewN ?_ _) | (refine Below.drew ?_) | (refine Below.alloc ?_ (by first | omega | (simp; omega) | simp) _) | (refine Below.setCell ?_ (by first | omega | (simp; omega) | simp) _) | (refine below_trans ?_ (by assumption) (by first | omega | (simp; omega) | simp)))))).mono ?_
      rintro e w2 ⟨rfl, hb_w2⟩
      obtain ⟨hc_w2, hf_w2⟩ := bcell hb_w2; have hs_w2 := hb_w2.size; (try simp only [World.size_alloc, World.size_setCell, World.size_drew, World.heap_drewN] at hs_w2)
      have b12 : Below w1.heap.size w1 w2 := (by repeat (first | exact Below.refl _ _ | assumption | (refine below_drewN ?_ _) | (refine Below.drew ?_) | (refine Below.alloc ?_ (by first | omega | (simp; omega) | simp) _) | (refine Below.setCell ?_ (by first | omega | (simp; omega) | simp) _) | (refine below_trans ?_ (by assumption) (by first | omega | (simp; omega) | simp))))
      have IB2 : IsB w1.heap.size w1.heap.size (prG g l l.length) w2 := isB_later IB.out hb_w2
      go_wp2_with fail
      go_at_call 45
      refine (writeString_any w1.heap.size w1.heap.size _ _ IB2 HL0.out (by omega)).mono ?_
      rintro e w3 ⟨v3, rfl, iB3, hb_w3, ho_w3⟩
      have IB3 := Lib.hid iB3
      have hs3 := hb_w3.size
      have b13 : Below w1.heap.size w1 w3 := b12.trans hb_w3
      clear iB3 ho_w3
      go_wp2_with fail
      go_at_call 48
      refine (bString_any w1.heap.size w1.heap.size _ IB3.out (by omega)).mono ?_
      rintro e w4 ⟨rfl, hb_w4⟩
      have b14 : Below w.heap.size w w4 := below_trans hb_w1 (below_trans b13 hb_w4 (by omega)) (by omega)
      clear hb_w4
      go_wp2
      go_ret
      rw [HQ.out]
      exact ⟨rfl, b14⟩
end
end Go.Proofs.YtggaijdbaplfiaaGreatDoor
