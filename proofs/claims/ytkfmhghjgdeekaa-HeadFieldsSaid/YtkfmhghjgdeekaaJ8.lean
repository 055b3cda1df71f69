/- The walk of the law HeadNexts. -/
import Derived.Test.YtkfmhghjgdeekaaJ7
import Derived.Deep.AppendLies
namespace Go.Proofs.Ytkfmhghjgdeekaa
open Go.RowKit
set_option linter.unusedVariables false
set_option linter.unusedSimpArgs false

def upto (k : Nat) : List Int := (List.range k).map fun (j : Nat) => (j : Int)
theorem length_upto (k : Nat) : (upto k).length = k := by simp [upto]
theorem getD_upto (k j : Nat) (h : j < k) : (upto k).getD j 0 = (j : Int) := by simp [upto, h]
theorem upto_next (k : Nat) : ivals (upto (k + 1)) = ivals (upto k) ++ [.int .i64 (k : Nat)] := by simp [ivals, upto, List.range_succ]
theorem upto_in (k : Nat) (hk : k ≤ 1000) : ∀ x ∈ upto k, I63 x := fun x hx => by
  simp only [upto, List.mem_map, List.mem_range] at hx
  obtain ⟨j, hj, rfl⟩ := hx
  unfold I63
  omega
/-- how many of the bits ahead of a are 1 -/
def cb (m : Nat) : Nat → Nat
  | 0 => 0
  | a + 1 => cb m a + if m.testBit a then 1 else 0
theorem cb_le (m a : Nat) : cb m a ≤ a := by
  induction a with
  | zero => exact Nat.le_refl _
  | succ a ih => rw [cb]; split <;> omega
theorem cnt_upto (m n k : Nat) (h : k ≤ n) : cnt m (upto n) k = cb m k := by
  induction k with
  | zero => rfl
  | succ k ih => rw [cnt, cb, ih (by omega), getD_upto n k (by omega), Int.toNat_natCast]
theorem nx_spec (m k : Nat) : ∀ a, (∀ i, nx m a k = some i → a ≤ i ∧ i < a + k ∧ m.testBit i = true ∧ cb m (i + 1) = cb m a + 1) ∧ (nx m a k = none → cb m (a + k) = cb m a) := by
  induction k with
  | zero => intro a; exact ⟨fun i h => (by cases h), fun _ => rfl⟩
  | succ k ih =>
    intro a
    obtain ⟨h1, h2⟩ := ih (a + 1)
    rcases hb : m.testBit a with _ | _
    · have ea : cb m (a + 1) = cb m a := by rw [cb, hb]; rfl
      rw [nx_skip hb]
      refine ⟨fun i h => ?_, fun h => ?_⟩
      · obtain ⟨a1, a2, a3, a4⟩ := h1 i h
        exact ⟨by omega, by omega, a3, by omega⟩
      · have := h2 h
        rw [show a + (k + 1) = a + 1 + k by omega]
        omega
    · rw [nx_hit hb]
      refine ⟨fun i h => ?_, fun h => by cases h⟩
      injection h with h
      subst h
      refine ⟨Nat.le_refl _, by omega, hb, ?_⟩
      rw [cb, hb]
      rfl
theorem rs_upto {n : Nat} {m : Nat} (h : Sh n m) : rsN n m (upto n) = (cb m n : Nat) ∧ rsY n m (upto n) = 0 := by
  have hA : AllF n (upto n) (upto n).length := fun j hj => by
    rw [length_upto] at hj
    rw [getD_upto n j hj]
    omega
  obtain ⟨h1, h2⟩ := rs_good h hA
  rw [length_upto, cnt_upto m n n (Nat.le_refl _)] at h1
  exact ⟨h1, h2⟩
theorem irow_of_owns {w : World} {B cap n : Nat} {A : Option Addr} {xs : List Int} (h : w.ownsRow B 3 1 (.slice A n cap) n (ivals xs)) (hn : xs.length = n) (hw : ∀ x ∈ xs, I63 x) : IRow w w.heap.size A xs := by
  subst hn
  obtain ⟨_, ⟨h1, h2⟩ | ⟨g, cap', cur, e, _⟩⟩ := id h
  · obtain rfl : xs = [] := by cases xs; rfl; simp at h2
    exact IRow.nil _ _ _
  · injection e with e1 e2 e3
    subst e1
    exact IRow.of_owns h hw
theorem refs_upto {n m : Nat} (hm : m < W64) (h : Sh n m) (A : Option Addr) (cap : Nat) (w : World) (hr : IRow w w.heap.size A (upto n)) :
    Calls Try.prog 18 #[.agg #[.int .i64 (n : Nat), .int .u64 (m : Nat)], .slice A n cap] w fun e w' => e = .returned (.tuple #[.int .i64 (cb m n : Nat), .int .i64 0]) ∧ Below w.heap.size w w' := by
  have h1 := h.2.1
  obtain ⟨q1, q2⟩ := rs_upto h
  have hh := hrefs_any (n := n) (w := w) hm cap hr (by rw [length_upto]; omega)
  rw [length_upto, q1, q2] at hh
  exact hh
theorem next_at {n m : Nat} (hm : m < W64) (h : Sh n m) (a : Nat) (ha : a ≤ n) : (∃ i : Nat, a ≤ i ∧ i < n ∧ m.testBit i = true ∧ cb m (i + 1) = cb m a + 1 ∧ Tels 20 #[.agg #[.int .i64 (n : Nat), .int .u64 (m : Nat)], .int .i64 (a : Nat)] (.tuple #[.int .i64 (i : Nat), .int .i64 0])) ∨
    (cb m n = cb m a ∧ Tels 20 #[.agg #[.int .i64 (n : Nat), .int .u64 (m : Nat)], .int .i64 (a : Nat)] (.tuple #[.int .i64 0, .int .i64 3])) := by
  obtain ⟨h1, h2⟩ := nx_spec m (n - a) a
  have e : ((n : Int) - (a : Int)).toNat = n - a := by omega
  have ha2 : 0 ≤ (a : Int) ∧ (a : Int) ≤ (n : Int) := by omega
  rcases hx : nx m a (n - a) with _ | i
  · refine .inr ⟨by have := h2 hx; rwa [show a + (n - a) = n by omega] at this, fun w => ?_⟩
    have q := nx_none (a := (a : Int)) h ha2 (by rw [Int.toNat_natCast, e]; exact hx)
    have := hnext_any (n := n) (w := w) hm (a : Int)
    rw [q.1, q.2] at this
    exact this
  · obtain ⟨a1, a2, a3, a4⟩ := h1 i hx
    refine .inl ⟨i, a1, by omega, a3, a4, fun w => ?_⟩
    have q := nx_some (a := (a : Int)) h ha2 (by rw [Int.toNat_natCast, e]; exact hx)
    have := hnext_any (n := n) (w := w) hm (a : Int)
    rw [q.1, q.2] at this
    exact this
theorem ref_at {n m : Nat} (hm : m < W64) (h : Sh n m) (i : Nat) (hi : i < n) (hb : m.testBit i = true) : Tels 16 #[.agg #[.int .i64 (n : Nat), .int .u64 (m : Nat)], .int .i64 (i : Nat)] (.tuple #[.bool true, .int .i64 0]) := fun w => by
  have := href_any (n := n) (w := w) hm (i : Int)
  rw [show rfB n m i = true by unfold rfB; rw [if_pos ⟨h, by omega, by omega⟩, Int.toNat_natCast]; exact hb, show rfY n m i = 0 by unfold rfY; rw [if_pos h, if_pos ⟨by omega, by omega⟩]] at this
  exact this
set_option maxHeartbeats 4000000 in
theorem headNexts_main (n m : Nat) (hm : m < W64) (w : World) (hs : Sh n m) :
    Calls Try.prog 6 #[.agg #[.int .i64 (n : Nat), .int .u64 (m : Nat)]] w fun e w' => e = .returned (.bool true) ∧ Below w.heap.size w w' := by
  have S := Lib.hid hs
  have h1 := hs.2.1
  obtain ⟨i0, hi, hz0, hz1, hz2⟩ := info_parts info_int
  clear hs
  go_enter Try.func6, Try.ntmps6
  go_wp2_with fail
  go_at_call 13
  refine (jlives_any _).mono ?_
  rintro e w1 ⟨rfl, hb_w1⟩
  obtain ⟨hc_w1, hf_w1⟩ := bcell hb_w1; have hz_w1_w_0 : w.heap.size < w1.heap.size := (by have hzz := hb_w1.size; (try simp only [World.size_alloc, World.size_setCell, World.size_drew, World.heap_drewN] at hzz); omega); have hs_w1 := hb_w1.size; (try simp only [World.size_alloc, World.size_setCell, World.size_drew, World.heap_drewN] at hs_w1)
  go_wp2_with fail
  go_at_call 14
  refine (hcheck_ok S.out).mono ?_
  rintro e w2 ⟨rfl, hb_w2⟩
  obtain ⟨hc_w2, hf_w2⟩ := bcell hb_w2; have hz_w2_w_0 : w.heap.size < w2.heap.size := (by have hzz := hb_w2.size; (try simp only [World.size_alloc, World.size_setCell, World.size_drew, World.heap_drewN] at hzz); omega); have hs_w2 := hb_w2.size; (try simp only [World.size_alloc, World.size_setCell, World.size_drew, World.heap_drewN] at hs_w2)
  have g2 : Sp w2 w.heap.size n m := ((Sp.new w n m 24).later hb_w1).below hb_w2 (by first | omega | (simp; omega) | simp)
  have b2 : Below w.heap.size w w2 := (by repeat (first | exact Below.refl _ _ | assumption | (refine below_drewN ?_ _) | (refine Below.drew ?_) | (refine Below.alloc ?_ (by first | omega | (simp; omega) | simp) _) | (refine Below.setCell ?_ (by first | omega | (simp; omega) | simp) _) | (refine below_trans ?_ (by assumption) (by first | omega | (simp; omega) | simp))))
  have z2 : w.heap.size + 1 ≤ w2.heap.size := by omega
  clear hc_w1 hf_w1 hc_w2 hf_w2
  go_wp2_with fail
  go_loopw [3, 4] (fun c ii wr => ∃ k : Nat, ii = .int .i64 (k : Nat) ∧ k ≤ n ∧ ∃ Ac capc, c = .slice Ac k capc ∧ wr.ownsRow w2.heap.size 3 1 (.slice Ac k capc) k (ivals (upto k)) ∧ w2.heap.size ≤ wr.heap.size ∧ Sp wr w.heap.size n m ∧ Below w.heap.size w wr) (fun _ ii _ => n - (intOf ii).toNat)
  case atStart => exact ⟨0, rfl, Nat.zero_le _, none, 0, rfl, World.ownsRow_nil _ _ _ _, (by first | omega | (simp; omega) | simp), g2, b2⟩
  case round =>
    obtain ⟨k, rfl, hk, Ac, capc, rfl, oC, hsz, gs, hb_wr⟩ := hrel
    have hsr := hb_wr.size
    have hsl := gs.lt
    obtain ⟨c0, c1⟩ := id gs
    by_cases hlt : k < n
    · have HV := Lib.hid (upto_next k)
      have hlv : (ivals (upto k)).length = k := by rw [length_ivals, length_upto]
      go_wp2_with (at_builtin; refine wpList_append_lies _ ?_ (.tmp 24) (.tmp 26) 33 ?_ w2.heap.size 3 i0 _ 1 8 Try.underlying33 hi hz0 hz1 hz2 rfl (by omega) (.slice Ac k capc) k (ivals (upto k)) ?_ (oC.alloc _) ⟨wr.heap.size, 0, none⟩ 1 1 [.int .i64 (k : Nat)] ?_ (by simp) ?_ (by simp [Value.oneCell']) (by omega) (by unfold maxLen; omega) (by omega) (by first | omega | (simp; omega) | simp) _ rfl ?_; rfl; rfl; rfl; rfl; (intro j u hj; have hj0 : j = 0 := (by cases j with | zero => rfl | succ j => simp at hj); subst hj0; simp at hj; subst hj; rw [add_form]; simp [go_sem]); intro g cap7 w7 hown7 hg7 hat7 hlt7; have hb_w7 : Below w2.heap.size _ w7 := (Below.refl _ _).grown hg7 (by first | omega | (simp; omega) | simp) (fun b hb => oC.lt b hb |>.1); have hs7 := hb_w7.size; (try simp only [World.size_alloc] at hs7); have gs7 : Sp w7 w.heap.size n m := (show Sp (wr.alloc (.cells #[.int .i64 (k : Nat)] 3)) w.heap.size n m from ⟨(World.cell?_alloc_lt _ _ ⟨_, _, _⟩ (by first | omega | (simp; omega) | simp)).trans c0, (World.cell?_alloc_lt _ _ ⟨_, _, _⟩ (by first | omega | (simp; omega) | simp)).trans c1⟩).below hb_w7 (by first | omega | (simp; omega) | simp))
      go_roundw
      case rel =>
        refine ⟨k + 1, ?_, ?_, some ⟨g, 0, none⟩, cap7, ?_, ?_, (by first | omega | (simp; omega) | simp), gs7, (by repeat (first | exact Below.refl _ _ | assumption | (refine below_drewN ?_ _) | (refine Below.drew ?_) | (refine Below.alloc ?_ (by first | omega | (simp; omega) | simp) _) | (refine Below.setCell ?_ (by first | omega | (simp; omega) | simp) _) | (refine below_trans ?_ (by assumption) (by first | omega | (simp; omega) | simp))))⟩
        · go_num
        · omega
        · rfl
        · rw [HV.out]; exact hown7
      case measure => simp [intOf]; omega
    · obtain rfl : k = n := by omega
      have rC : IRow wr wr.heap.size Ac (upto k) := irow_of_owns oC (length_upto k) (upto_in k (by omega))
      generalize wr = wA at *
      have hcb := cb_le m k
      go_wp2_with fail
      go_at_call 18
      refine (refs_upto hm S.out _ _ _ rC).mono ?_
      rintro e w3 ⟨rfl, hb_w3⟩
      obtain ⟨hc_w3, hf_w3⟩ := bcell hb_w3; have hs_w3 := hb_w3.size; (try simp only [World.size_alloc, World.size_setCell, World.size_drew, World.heap_drewN] at hs_w3)
      have g3 := gs.later hb_w3
      have b3 : Below w.heap.size w w3 := (by repeat (first | exact Below.refl _ _ | assumption | (refine below_drewN ?_ _) | (refine Below.drew ?_) | (refine Below.alloc ?_ (by first | omega | (simp; omega) | simp) _) | (refine Below.setCell ?_ (by first | omega | (simp; omega) | simp) _) | (refine below_trans ?_ (by assumption) (by first | omega | (simp; omega) | simp))))
      clear hc_w3 hf_w3 oC rC gs c0 c1
      go_wp2_with fail
      go_loopw [7, 8] (fun c ii wr => ∃ a : Nat, ii = .int .i64 (a : Nat) ∧ a ≤ k ∧ c = .int .i64 (cb m a : Nat) ∧ Sp wr w.heap.size k m ∧ Below w.heap.size w wr) (fun _ ii _ => k - (intOf ii).toNat)
      case atStart => exact ⟨0, rfl, Nat.zero_le _, rfl, g3, b3⟩
      case round =>
        obtain ⟨a, rfl, ha, rfl, gr, hb_wr2⟩ := hrel
        have hsr2 := hb_wr2.size
        have hsl2 := gr.lt
        obtain ⟨c0, c1⟩ := id gr
        have hca := cb_le m a
        rcases next_at hm S.out a ha with ⟨i, a1, a2, a3, a4, T⟩ | ⟨a4, T⟩
        · have TT := Lib.hid T
          have HR := Lib.hid (ref_at hm S.out i a2 a3)
          have HC : Hid (((cb m (i + 1) : Nat) : Int) = ((cb m a : Nat) : Int) + 1) := Lib.hid (by rw [a4]; omega)
          have d1 : decide ((i : Int) < (a : Int)) = false := decide_eq_false (by omega)
          clear T a3 a4
          go_wp2_with fail
          go_at_call 20
          refine (TT.out _).mono ?_
          rintro e w5 ⟨rfl, hb_w5⟩
          obtain ⟨hc_w5, hf_w5⟩ := bcell hb_w5; have hs_w5 := hb_w5.size; (try simp only [World.size_alloc, World.size_setCell, World.size_drew, World.heap_drewN] at hs_w5)
          go_wp2_with fail
          go_at_call 16
          refine (HR.out _).mono ?_
          rintro e w6 ⟨rfl, hb_w6⟩
          obtain ⟨hc_w6, hf_w6⟩ := bcell hb_w6; have hs_w6 := hb_w6.size; (try simp only [World.size_alloc, World.size_setCell, World.size_drew, World.heap_drewN] at hs_w6)
          go_wp2
          go_roundw
          case rel => exact ⟨i + 1, by go_num, by omega, by rw [HC.out], (gr.later hb_w5).below hb_w6 (by first | omega | (simp; omega) | simp), (by repeat (first | exact Below.refl _ _ | assumption | (refine below_drewN ?_ _) | (refine Below.drew ?_) | (refine Below.alloc ?_ (by first | omega | (simp; omega) | simp) _) | (refine Below.setCell ?_ (by first | omega | (simp; omega) | simp) _) | (refine below_trans ?_ (by assumption) (by first | omega | (simp; omega) | simp))))⟩
          case measure => simp [intOf]; omega
        · have TT := Lib.hid T
          have hc : (((cb m a : Nat) : Int) == ((cb m k : Nat) : Int)) = true := by rw [a4]; simp
          clear T a4
          go_wp2_with fail
          go_at_call 20
          refine (TT.out _).mono ?_
          rintro e w5 ⟨rfl, hb_w5⟩
          obtain ⟨hc_w5, hf_w5⟩ := bcell hb_w5; have hs_w5 := hb_w5.size; (try simp only [World.size_alloc, World.size_setCell, World.size_drew, World.heap_drewN] at hs_w5)
          go_wp2
          go_ret
          exact ⟨rfl, (by repeat (first | exact Below.refl _ _ | assumption | (refine below_drewN ?_ _) | (refine Below.drew ?_) | (refine Below.alloc ?_ (by first | omega | (simp; omega) | simp) _) | (refine Below.setCell ?_ (by first | omega | (simp; omega) | simp) _) | (refine below_trans ?_ (by assumption) (by first | omega | (simp; omega) | simp))))⟩
theorem headNexts_walk (n : Int) (m : Nat) (hm : m < W64) (w : World) :
    Calls Try.prog 6 #[.agg #[.int .i64 n, .int .u64 (m : Nat)]] w fun e w' => e = .returned (.bool true) ∧ Below w.heap.size w w' := by
  by_cases hs : Sh n m
  · obtain ⟨n, rfl⟩ := Int.eq_ofNat_of_zero_le hs.1
    exact headNexts_main n m hm w hs
  · have S := Lib.hid hs
    clear hs
    go_enter Try.func6, Try.ntmps6
    go_wp2_with fail
    go_at_call 13
    refine (jlives_any _).mono ?_
    rintro e w1 ⟨rfl, hb_w1⟩
    obtain ⟨hc_w1, hf_w1⟩ := bcell hb_w1; have hz_w1_w_0 : w.heap.size < w1.heap.size := (by have hzz := hb_w1.size; (try simp only [World.size_alloc, World.size_setCell, World.size_drew, World.heap_drewN] at hzz); omega); have hs_w1 := hb_w1.size; (try simp only [World.size_alloc, World.size_setCell, World.size_drew, World.heap_drewN] at hs_w1)
    go_wp2_with fail
    go_at_call 14
    refine (hcheck_bad hm S.out).mono ?_
    rintro e w2 ⟨rfl, hb_w2⟩
    obtain ⟨hc_w2, hf_w2⟩ := bcell hb_w2; have hz_w2_w_0 : w.heap.size < w2.heap.size := (by have hzz := hb_w2.size; (try simp only [World.size_alloc, World.size_setCell, World.size_drew, World.heap_drewN] at hzz); omega); have hs_w2 := hb_w2.size; (try simp only [World.size_alloc, World.size_setCell, World.size_drew, World.heap_drewN] at hs_w2)
    go_wp2
    go_ret
    exact ⟨rfl, (by repeat (first | exact Below.refl _ _ | assumption | (refine below_drewN ?_ _) | (refine Below.drew ?_) | (refine Below.alloc ?_ (by first | omega | (simp; omega) | simp) _) | (refine Below.setCell ?_ (by first | omega | (simp; omega) | simp) _) | (refine below_trans ?_ (by assumption) (by first | omega | (simp; omega) | simp))))⟩
end Go.Proofs.Ytkfmhghjgdeekaa
