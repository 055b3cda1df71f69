/- Contracts of package head and of the document's own answers for it: several fields, the next one. -/
import Derived.Test.YtkfmhghjgdeekaaJ3
namespace Go.Proofs.Ytkfmhghjgdeekaa
open Go.RowKit
set_option linter.unusedVariables false
set_option linter.unusedSimpArgs false

theorem jnamed (xs : List Int) (k : Nat) : ∃ x, Hid (xs.getD k 0 = x) := ⟨_, rfl⟩
theorem AllF.snoc {n : Int} {xs : List Int} {k : Nat} (h : AllF n xs k) (h0 : 0 ≤ xs.getD k 0) (h1 : xs.getD k 0 < n) : AllF n xs (k + 1) := fun j hj => by
  by_cases e : j = k
  · rw [e]; exact ⟨h0, h1⟩
  · exact h j (by omega)
theorem rf_at {n : Int} {m : Nat} {f : Int} (h : Sh n m) : (0 ≤ f ∧ f < n ∧ rfB n m f = m.testBit f.toNat ∧ rfY n m f = 0) ∨ (¬ (0 ≤ f ∧ f < n) ∧ rfB n m f = false ∧ rfY n m f = 9) := by
  by_cases hf : 0 ≤ f ∧ f < n
  · exact .inl ⟨hf.1, hf.2, if_pos ⟨h, hf⟩, by unfold rfY; rw [if_pos h, if_pos hf]⟩
  · exact .inr ⟨hf, if_neg fun hh => hf hh.2, by unfold rfY; rw [if_pos h, if_neg hf]⟩
theorem rs_good {n : Int} {m : Nat} {xs : List Int} (h : Sh n m) (hA : AllF n xs xs.length) : rsN n m xs = (cnt m xs xs.length : Nat) ∧ rsY n m xs = 0 :=
  ⟨if_pos ⟨h, hA⟩, by unfold rsY; rw [if_pos h, if_pos hA]⟩
theorem rs_out {n : Int} {m : Nat} {xs : List Int} (h : Sh n m) (hA : ¬ AllF n xs xs.length) : rsN n m xs = 0 ∧ rsY n m xs = 9 :=
  ⟨if_neg fun hh => hA hh.2, by unfold rsY; rw [if_pos h, if_neg hA]⟩
theorem rs_bad {n : Int} {m : Nat} {xs : List Int} (h : ¬ Sh n m) : rsN n m xs = 0 ∧ rsY n m xs = 2 := ⟨if_neg fun hh => h hh.1, if_neg h⟩
theorem nx_bad {n : Int} {m : Nat} {a : Int} (h : ¬ Sh n m) : nxN n m a = 0 ∧ nxY n m a = 2 := ⟨if_neg fun hh => h hh.1, if_neg h⟩
theorem nx_out {n : Int} {m : Nat} {a : Int} (h : Sh n m) (ha : ¬ (0 ≤ a ∧ a ≤ n)) : nxN n m a = 0 ∧ nxY n m a = 1 := ⟨if_neg fun hh => ha hh.2, by unfold nxY; rw [if_pos h, if_neg ha]⟩
theorem nx_some {n : Int} {m : Nat} {a : Int} {i : Nat} (h : Sh n m) (ha : 0 ≤ a ∧ a ≤ n) (hx : nx m a.toNat (n - a).toNat = some i) : nxN n m a = (i : Int) ∧ nxY n m a = 0 := by
  unfold nxN nxY
  rw [if_pos ⟨h, ha⟩, if_pos h, if_pos ha, hx]
  exact ⟨rfl, rfl⟩
theorem nx_none {n : Int} {m : Nat} {a : Int} (h : Sh n m) (ha : 0 ≤ a ∧ a ≤ n) (hx : nx m a.toNat (n - a).toNat = none) : nxN n m a = 0 ∧ nxY n m a = 3 := by
  unfold nxN nxY
  rw [if_pos ⟨h, ha⟩, if_pos h, if_pos ha, hx]
  exact ⟨rfl, rfl⟩
section
variable {n : Int} {m : Nat} {w : World}
set_option maxHeartbeats 1000000 in
theorem hrefs_any (hm : m < W64) {A : Option Addr} {xs : List Int} (cap : Nat) (hr : IRow w w.heap.size A xs) (hl : xs.length ≤ 17592186044416) :
    Calls Try.prog 18 #[.agg #[.int .i64 n, .int .u64 (m : Nat)], .slice A xs.length cap] w fun e w' => e = .returned (.tuple #[.int .i64 (rsN n m xs), .int .i64 (rsY n m xs)]) ∧ Below w.heap.size w w' := by
  by_cases h : Sh n m
  · have hH := Lib.hid h
    have h0 := h.1
    have h1 := h.2.1
    clear h
    go_enter Try.func18, Try.ntmps18
    go_wp2_with (go_at_call 14; refine (hcheck_ok hH.out).mono ?_; rintro e w1 ⟨rfl, hb_w1⟩; obtain ⟨hc_w1, hf_w1⟩ := bcell hb_w1; have hz_w1_w_0 : w.heap.size < w1.heap.size := (by have hzz := hb_w1.size; (try simp only [World.size_alloc, World.size_setCell, World.size_drew, World.heap_drewN] at hzz); omega); have hs_w1 := hb_w1.size; (try simp only [World.size_alloc, World.size_setCell, World.size_drew, World.heap_drewN] at hs_w1))
    have S1 : Sp w1 w.heap.size n m := (Sp.new w n m 24).later hb_w1
    have R1 : IRow w1 w.heap.size A xs := hr.keep fun b o hlt => (hc_w1 b o (by first | omega | (simp; omega) | simp)).trans (World.cell?_alloc_lt _ _ ⟨_, _, _⟩ hlt)
    have B1 : Below w.heap.size w w1 := (by repeat (first | exact Below.refl _ _ | assumption | (refine below_drewN ?_ _) | (refine Below.drew ?_) | (refine Below.alloc ?_ (by first | omega | (simp; omega) | simp) _) | (refine Below.setCell ?_ (by first | omega | (simp; omega) | simp) _) | (refine below_trans ?_ (by assumption) (by first | omega | (simp; omega) | simp))))
    clear hc_w1 hf_w1
    go_loopw [7, 19] (fun c i wr => ∃ k : Nat, i = .int .i64 (k : Nat) ∧ k ≤ xs.length ∧ c = .int .i64 (cnt m xs k : Nat) ∧ AllF n xs k ∧ Sp wr w.heap.size n m ∧ IRow wr w.heap.size A xs ∧ Below w.heap.size w wr) (fun _ i _ => xs.length - (intOf i).toNat)
    case atStart => exact ⟨0, rfl, Nat.zero_le _, rfl, fun j hj => by omega, S1, R1, B1⟩
    case round =>
      obtain ⟨k, rfl, hk, rfl, hA, hs, hR, hb_wr⟩ := hrel
      have hsr := hb_wr.size
      have hsl := hs.lt
      obtain ⟨c0, c1⟩ := id hs
      have hcn := cnt_le m xs k
      by_cases hlt : k < xs.length
      · obtain ⟨b, off, rfl, hbb, hc⟩ := hR.at_ (by omega)
        have hck := hc k hlt
        obtain ⟨x, hx⟩ := jnamed xs k
        rw [hx.out] at hck
        clear hc
        have HA := Lib.hid hA
        clear hA
        obtain ⟨B, Y, hB, hY⟩ : ∃ B Y, Hid (rfB n m x = B) ∧ Hid (rfY n m x = Y) := ⟨_, _, rfl, rfl⟩
        rcases rf_at (f := x) hH.out with ⟨x0, x1, g, g2⟩ | ⟨hf, g, g2⟩
        · rw [hY.out] at g2
          subst g2
          rw [hB.out] at g
          have HA2 : Hid (AllF n xs (k + 1)) := Lib.hid (HA.out.snoc (by rw [hx.out]; exact x0) (by rw [hx.out]; exact x1))
          rcases hbit : m.testBit x.toNat with _ | _
          · rw [hbit] at g
            subst g
            have HC : Hid (cnt m xs (k + 1) = cnt m xs k) := Lib.hid (by rw [cnt, hx.out, hbit]; rfl)
            go_wp2_with (go_at_call 16; refine (href_any hm x).mono ?_; rintro e w2 ⟨rfl, hb_w2⟩; rw [hB.out, hY.out]; obtain ⟨hc_w2, hf_w2⟩ := bcell hb_w2; have hs_w2 := hb_w2.size; (try simp only [World.size_alloc, World.size_setCell, World.size_drew, World.heap_drewN] at hs_w2))
            go_roundw
            case rel => exact ⟨k + 1, by go_num, by omega, by rw [HC.out], HA2.out, hs.later hb_w2, hR.keep fun b o hlt => hb_w2.cell (p := ⟨b, o, none⟩) (by first | omega | (simp; omega) | simp), (by repeat (first | exact Below.refl _ _ | assumption | (refine below_drewN ?_ _) | (refine Below.drew ?_) | (refine Below.alloc ?_ (by first | omega | (simp; omega) | simp) _) | (refine Below.setCell ?_ (by first | omega | (simp; omega) | simp) _) | (refine below_trans ?_ (by assumption) (by first | omega | (simp; omega) | simp))))⟩
            case measure => simp [intOf]; omega
          · rw [hbit] at g
            subst g
            have HC : Hid (cnt m xs (k + 1) = cnt m xs k + 1) := Lib.hid (by rw [cnt, hx.out, hbit]; rfl)
            go_wp2_with (go_at_call 16; refine (href_any hm x).mono ?_; rintro e w2 ⟨rfl, hb_w2⟩; rw [hB.out, hY.out]; obtain ⟨hc_w2, hf_w2⟩ := bcell hb_w2; have hs_w2 := hb_w2.size; (try simp only [World.size_alloc, World.size_setCell, World.size_drew, World.heap_drewN] at hs_w2))
            go_roundw
            case rel => exact ⟨k + 1, by go_num, by omega, by rw [HC.out]; go_num, HA2.out, hs.later hb_w2, hR.keep fun b o hlt => hb_w2.cell (p := ⟨b, o, none⟩) (by first | omega | (simp; omega) | simp), (by repeat (first | exact Below.refl _ _ | assumption | (refine below_drewN ?_ _) | (refine Below.drew ?_) | (refine Below.alloc ?_ (by first | omega | (simp; omega) | simp) _) | (refine Below.setCell ?_ (by first | omega | (simp; omega) | simp) _) | (refine below_trans ?_ (by assumption) (by first | omega | (simp; omega) | simp))))⟩
            case measure => simp [intOf]; omega
        · rw [hY.out] at g2
          subst g2
          rw [hB.out] at g
          subst g
          obtain ⟨q1, q2⟩ := rs_out (xs := xs) hH.out fun hh => hf (by have := hh k hlt; rwa [hx.out] at this)
          clear hf
          go_wp2_with (go_at_call 16; refine (href_any hm x).mono ?_; rintro e w2 ⟨rfl, hb_w2⟩; rw [hB.out, hY.out]; obtain ⟨hc_w2, hf_w2⟩ := bcell hb_w2; have hs_w2 := hb_w2.size; (try simp only [World.size_alloc, World.size_setCell, World.size_drew, World.heap_drewN] at hs_w2))
          go_ret2
          exact ⟨by first | (rw [q1, q2]; done) | (rw [q1, q2]; rfl) | rfl, (by repeat (first | exact Below.refl _ _ | assumption | (refine below_drewN ?_ _) | (refine Below.drew ?_) | (refine Below.alloc ?_ (by first | omega | (simp; omega) | simp) _) | (refine Below.setCell ?_ (by first | omega | (simp; omega) | simp) _) | (refine below_trans ?_ (by assumption) (by first | omega | (simp; omega) | simp))))⟩
      · obtain rfl : k = xs.length := by omega
        obtain ⟨q1, q2⟩ := rs_good hH.out hA
        go_wp2
        go_ret2
        exact ⟨by first | (rw [q1, q2]; done) | (rw [q1, q2]; rfl) | rfl, (by repeat (first | exact Below.refl _ _ | assumption | (refine below_drewN ?_ _) | (refine Below.drew ?_) | (refine Below.alloc ?_ (by first | omega | (simp; omega) | simp) _) | (refine Below.setCell ?_ (by first | omega | (simp; omega) | simp) _) | (refine below_trans ?_ (by assumption) (by first | omega | (simp; omega) | simp))))⟩
  · have hH := Lib.hid h
    obtain ⟨q1, q2⟩ := rs_bad (xs := xs) h
    rw [q1, q2]
    clear h
    go_enter Try.func18, Try.ntmps18
    go_wp2_with (go_at_call 14; refine (hcheck_bad hm hH.out).mono ?_; rintro e w1 ⟨rfl, hb_w1⟩; obtain ⟨hc_w1, hf_w1⟩ := bcell hb_w1; have hz_w1_w_0 : w.heap.size < w1.heap.size := (by have hzz := hb_w1.size; (try simp only [World.size_alloc, World.size_setCell, World.size_drew, World.heap_drewN] at hzz); omega); have hs_w1 := hb_w1.size; (try simp only [World.size_alloc, World.size_setCell, World.size_drew, World.heap_drewN] at hs_w1))
    go_ret2
    exact ⟨rfl, (by repeat (first | exact Below.refl _ _ | assumption | (refine below_drewN ?_ _) | (refine Below.drew ?_) | (refine Below.alloc ?_ (by first | omega | (simp; omega) | simp) _) | (refine Below.setCell ?_ (by first | omega | (simp; omega) | simp) _) | (refine below_trans ?_ (by assumption) (by first | omega | (simp; omega) | simp))))⟩
set_option maxHeartbeats 1000000 in
theorem xrefs_any (hm : m < W64) {A : Option Addr} {xs : List Int} (cap : Nat) (hr : IRow w w.heap.size A xs) (hl : xs.length ≤ 17592186044416) :
    Calls Try.prog 19 #[.agg #[.int .i64 n, .int .u64 (m : Nat)], .slice A xs.length cap] w fun e w' => e = .returned (.tuple #[.int .i64 (rsN n m xs), .int .i64 (rsY n m xs)]) ∧ Below w.heap.size w w' := by
  by_cases h : Sh n m
  · have hH := Lib.hid h
    have h0 := h.1
    have h1 := h.2.1
    clear h
    go_enter Try.func19, Try.ntmps19
    go_wp2_with (go_at_call 15; refine (xcheck_ok hH.out).mono ?_; rintro e w1 ⟨rfl, hb_w1⟩; obtain ⟨hc_w1, hf_w1⟩ := bcell hb_w1; have hz_w1_w_0 : w.heap.size < w1.heap.size := (by have hzz := hb_w1.size; (try simp only [World.size_alloc, World.size_setCell, World.size_drew, World.heap_drewN] at hzz); omega); have hs_w1 := hb_w1.size; (try simp only [World.size_alloc, World.size_setCell, World.size_drew, World.heap_drewN] at hs_w1))
    have S1 : Sp w1 w.heap.size n m := (Sp.new w n m 24).later hb_w1
    have R1 : IRow w1 w.heap.size A xs := hr.keep fun b o hlt => (hc_w1 b o (by first | omega | (simp; omega) | simp)).trans (World.cell?_alloc_lt _ _ ⟨_, _, _⟩ hlt)
    have B1 : Below w.heap.size w w1 := (by repeat (first | exact Below.refl _ _ | assumption | (refine below_drewN ?_ _) | (refine Below.drew ?_) | (refine Below.alloc ?_ (by first | omega | (simp; omega) | simp) _) | (refine Below.setCell ?_ (by first | omega | (simp; omega) | simp) _) | (refine below_trans ?_ (by assumption) (by first | omega | (simp; omega) | simp))))
    clear hc_w1 hf_w1
    go_loopw [6, 16] (fun c i wr => ∃ k : Nat, i = .int .i64 (k : Nat) ∧ k ≤ xs.length ∧ c = .int .i64 (cnt m xs k : Nat) ∧ AllF n xs k ∧ Sp wr w.heap.size n m ∧ IRow wr w.heap.size A xs ∧ Below w.heap.size w wr) (fun _ i _ => xs.length - (intOf i).toNat)
    case atStart => exact ⟨0, rfl, Nat.zero_le _, rfl, fun j hj => by omega, S1, R1, B1⟩
    case round =>
      obtain ⟨k, rfl, hk, rfl, hA, hs, hR, hb_wr⟩ := hrel
      have hsr := hb_wr.size
      have hsl := hs.lt
      obtain ⟨c0, c1⟩ := id hs
      have hcn := cnt_le m xs k
      by_cases hlt : k < xs.length
      · obtain ⟨b, off, rfl, hbb, hc⟩ := hR.at_ (by omega)
        have hck := hc k hlt
        obtain ⟨x, hx⟩ := jnamed xs k
        rw [hx.out] at hck
        clear hc
        have HA := Lib.hid hA
        clear hA
        obtain ⟨B, Y, hB, hY⟩ : ∃ B Y, Hid (rfB n m x = B) ∧ Hid (rfY n m x = Y) := ⟨_, _, rfl, rfl⟩
        rcases rf_at (f := x) hH.out with ⟨x0, x1, g, g2⟩ | ⟨hf, g, g2⟩
        · rw [hY.out] at g2
          subst g2
          rw [hB.out] at g
          have HA2 : Hid (AllF n xs (k + 1)) := Lib.hid (HA.out.snoc (by rw [hx.out]; exact x0) (by rw [hx.out]; exact x1))
          rcases hbit : m.testBit x.toNat with _ | _
          · rw [hbit] at g
            subst g
            have HC : Hid (cnt m xs (k + 1) = cnt m xs k) := Lib.hid (by rw [cnt, hx.out, hbit]; rfl)
            go_wp2_with (go_at_call 17; refine (xref_any hm x).mono ?_; rintro e w2 ⟨rfl, hb_w2⟩; rw [hB.out, hY.out]; obtain ⟨hc_w2, hf_w2⟩ := bcell hb_w2; have hs_w2 := hb_w2.size; (try simp only [World.size_alloc, World.size_setCell, World.size_drew, World.heap_drewN] at hs_w2))
            go_roundw
            case rel => exact ⟨k + 1, by go_num, by omega, by rw [HC.out], HA2.out, hs.later hb_w2, hR.keep fun b o hlt => hb_w2.cell (p := ⟨b, o, none⟩) (by first | omega | (simp; omega) | simp), (by repeat (first | exact Below.refl _ _ | assumption | (refine below_drewN ?_ _) | (refine Below.drew ?_) | (refine Below.alloc ?_ (by first | omega | (simp; omega) | simp) _) | (refine Below.setCell ?_ (by first | omega | (simp; omega) | simp) _) | (refine below_trans ?_ (by assumption) (by first | omega | (simp; omega) | simp))))⟩
            case measure => simp [intOf]; omega
          · rw [hbit] at g
            subst g
            have HC : Hid (cnt m xs (k + 1) = cnt m xs k + 1) := Lib.hid (by rw [cnt, hx.out, hbit]; rfl)
            go_wp2_with (go_at_call 17; refine (xref_any hm x).mono ?_; rintro e w2 ⟨rfl, hb_w2⟩; rw [hB.out, hY.out]; obtain ⟨hc_w2, hf_w2⟩ := bcell hb_w2; have hs_w2 := hb_w2.size; (try simp only [World.size_alloc, World.size_setCell, World.size_drew, World.heap_drewN] at hs_w2))
            go_roundw
            case rel => exact ⟨k + 1, by go_num, by omega, by rw [HC.out]; go_num, HA2.out, hs.later hb_w2, hR.keep fun b o hlt => hb_w2.cell (p := ⟨b, o, none⟩) (by first | omega | (simp; omega) | simp), (by repeat (first | exact Below.refl _ _ | assumption | (refine below_drewN ?_ _) | (refine Below.drew ?_) | (refine Below.alloc ?_ (by first | omega | (simp; omega) | simp) _) | (refine Below.setCell ?_ (by first | omega | (simp; omega) | simp) _) | (refine below_trans ?_ (by assumption) (by first | omega | (simp; omega) | simp))))⟩
            case measure => simp [intOf]; omega
        · rw [hY.out] at g2
          subst g2
          rw [hB.out] at g
          subst g
          obtain ⟨q1, q2⟩ := rs_out (xs := xs) hH.out fun hh => hf (by have := hh k hlt; rwa [hx.out] at this)
          clear hf
          go_wp2_with (go_at_call 17; refine (xref_any hm x).mono ?_; rintro e w2 ⟨rfl, hb_w2⟩; rw [hB.out, hY.out]; obtain ⟨hc_w2, hf_w2⟩ := bcell hb_w2; have hs_w2 := hb_w2.size; (try simp only [World.size_alloc, World.size_setCell, World.size_drew, World.heap_drewN] at hs_w2))
          go_ret2
          exact ⟨by first | (rw [q1, q2]; done) | (rw [q1, q2]; rfl) | rfl, (by repeat (first | exact Below.refl _ _ | assumption | (refine below_drewN ?_ _) | (refine Below.drew ?_) | (refine Below.alloc ?_ (by first | omega | (simp; omega) | simp) _) | (refine Below.setCell ?_ (by first | omega | (simp; omega) | simp) _) | (refine below_trans ?_ (by assumption) (by first | omega | (simp; omega) | simp))))⟩
      · obtain rfl : k = xs.length := by omega
        obtain ⟨q1, q2⟩ := rs_good hH.out hA
        go_wp2
        go_ret2
        exact ⟨by first | (rw [q1, q2]; done) | (rw [q1, q2]; rfl) | rfl, (by repeat (first | exact Below.refl _ _ | assumption | (refine below_drewN ?_ _) | (refine Below.drew ?_) | (refine Below.alloc ?_ (by first | omega | (simp; omega) | simp) _) | (refine Below.setCell ?_ (by first | omega | (simp; omega) | simp) _) | (refine below_trans ?_ (by assumption) (by first | omega | (simp; omega) | simp))))⟩
  · have hH := Lib.hid h
    obtain ⟨q1, q2⟩ := rs_bad (xs := xs) h
    rw [q1, q2]
    clear h
    go_enter Try.func19, Try.ntmps19
    go_wp2_with (go_at_call 15; refine (xcheck_bad hm hH.out).mono ?_; rintro e w1 ⟨rfl, hb_w1⟩; obtain ⟨hc_w1, hf_w1⟩ := bcell hb_w1; have hz_w1_w_0 : w.heap.size < w1.heap.size := (by have hzz := hb_w1.size; (try simp only [World.size_alloc, World.size_setCell, World.size_drew, World.heap_drewN] at hzz); omega); have hs_w1 := hb_w1.size; (try simp only [World.size_alloc, World.size_setCell, World.size_drew, World.heap_drewN] at hs_w1))
    go_ret2
    exact ⟨rfl, (by repeat (first | exact Below.refl _ _ | assumption | (refine below_drewN ?_ _) | (refine Below.drew ?_) | (refine Below.alloc ?_ (by first | omega | (simp; omega) | simp) _) | (refine Below.setCell ?_ (by first | omega | (simp; omega) | simp) _) | (refine below_trans ?_ (by assumption) (by first | omega | (simp; omega) | simp))))⟩
set_option maxHeartbeats 1000000 in
theorem hnext_any (hm : m < W64) (a : Int) :
    Calls Try.prog 20 #[.agg #[.int .i64 n, .int .u64 (m : Nat)], .int .i64 a] w fun e w' => e = .returned (.tuple #[.int .i64 (nxN n m a), .int .i64 (nxY n m a)]) ∧ Below w.heap.size w w' := by
  by_cases h : Sh n m
  · have hH := Lib.hid h
    have h0 := h.1
    have h1 := h.2.1
    by_cases ha : 0 ≤ a ∧ a ≤ n
    · have hN := Lib.hid ha
      have hd : decide (a < 0) = false := decide_eq_false (by omega)
      have hd1 : decide (n < a) = false := decide_eq_false (by omega)
      obtain ⟨a0, a1⟩ := ha
      clear h
      go_enter Try.func20, Try.ntmps20
      go_wp2_with (go_at_call 14; refine (hcheck_ok hH.out).mono ?_; rintro e w1 ⟨rfl, hb_w1⟩; obtain ⟨hc_w1, hf_w1⟩ := bcell hb_w1; have hz_w1_w_0 : w.heap.size < w1.heap.size := (by have hzz := hb_w1.size; (try simp only [World.size_alloc, World.size_setCell, World.size_drew, World.heap_drewN] at hzz); omega); have hs_w1 := hb_w1.size; (try simp only [World.size_alloc, World.size_setCell, World.size_drew, World.heap_drewN] at hs_w1))
      have S1 : Sp w1 w.heap.size n m := (Sp.new w n m 24).later hb_w1
      have B1 : Below w.heap.size w w1 := (by repeat (first | exact Below.refl _ _ | assumption | (refine below_drewN ?_ _) | (refine Below.drew ?_) | (refine Below.alloc ?_ (by first | omega | (simp; omega) | simp) _) | (refine Below.setCell ?_ (by first | omega | (simp; omega) | simp) _) | (refine below_trans ?_ (by assumption) (by first | omega | (simp; omega) | simp))))
      clear hc_w1 hf_w1
      go_loopw [7] (fun i wr => ∃ k : Int, i = .int .i64 k ∧ a ≤ k ∧ k ≤ n ∧ nx m a.toNat (n - a).toNat = nx m k.toNat (n - k).toNat ∧ Sp wr w.heap.size n m ∧ Below w.heap.size w wr) (fun i _ => (n - intOf i).toNat)
      case atStart => exact ⟨a, rfl, by omega, by omega, rfl, S1, B1⟩
      case round =>
        obtain ⟨k, rfl, hk0, hk1, hx, hs, hb_wr⟩ := hrel
        have hX := Lib.hid hx
        clear hx
        have hsr := hb_wr.size
        have hsl := hs.lt
        obtain ⟨c0, c1⟩ := id hs
        by_cases hlt : k < n
        · have e : decide (k < n) = true := decide_eq_true hlt
          have e2 : (n - k).toNat = (n - (k + 1)).toNat + 1 := by omega
          rcases hbit : m.testBit k.toNat with _ | _
          · have HX : Hid (nx m a.toNat (n - a).toNat = nx m (k + 1).toNat (n - (k + 1)).toNat) := Lib.hid (by rw [hX.out, e2, nx_skip hbit, show (k + 1).toNat = k.toNat + 1 by omega])
            go_wp2_with (go_at_call 23; refine (hholds_any hm k (by omega) (by omega)).mono ?_; rintro e w2 ⟨rfl, hb_w2⟩; rw [hbit]; obtain ⟨hc_w2, hf_w2⟩ := bcell hb_w2; have hs_w2 := hb_w2.size; (try simp only [World.size_alloc, World.size_setCell, World.size_drew, World.heap_drewN] at hs_w2))
            go_roundw
            case rel => exact ⟨k + 1, by go_num, by omega, by omega, HX.out, hs.later hb_w2, (by repeat (first | exact Below.refl _ _ | assumption | (refine below_drewN ?_ _) | (refine Below.drew ?_) | (refine Below.alloc ?_ (by first | omega | (simp; omega) | simp) _) | (refine Below.setCell ?_ (by first | omega | (simp; omega) | simp) _) | (refine below_trans ?_ (by assumption) (by first | omega | (simp; omega) | simp))))⟩
            case measure => simp [intOf]; omega
          · obtain ⟨q1, q2⟩ := nx_some hH.out hN.out (hX.out.trans (by rw [e2]; exact nx_hit hbit))
            replace q1 := q1.trans (show ((k.toNat : Nat) : Int) = k by omega)
            go_wp2_with (go_at_call 23; refine (hholds_any hm k (by omega) (by omega)).mono ?_; rintro e w2 ⟨rfl, hb_w2⟩; rw [hbit]; obtain ⟨hc_w2, hf_w2⟩ := bcell hb_w2; have hs_w2 := hb_w2.size; (try simp only [World.size_alloc, World.size_setCell, World.size_drew, World.heap_drewN] at hs_w2))
            go_ret2
            exact ⟨by first | (rw [q1, q2]; done) | (rw [q1, q2]; rfl) | rfl, (by repeat (first | exact Below.refl _ _ | assumption | (refine below_drewN ?_ _) | (refine Below.drew ?_) | (refine Below.alloc ?_ (by first | omega | (simp; omega) | simp) _) | (refine Below.setCell ?_ (by first | omega | (simp; omega) | simp) _) | (refine below_trans ?_ (by assumption) (by first | omega | (simp; omega) | simp))))⟩
        · obtain rfl : k = n := by omega
          have e : decide (k < k) = false := decide_eq_false hlt
          obtain ⟨q1, q2⟩ := nx_none hH.out hN.out (hX.out.trans (by rw [Int.sub_self]; rfl))
          go_wp2
          go_ret2
          exact ⟨by first | (rw [q1, q2]; done) | (rw [q1, q2]; rfl) | rfl, (by repeat (first | exact Below.refl _ _ | assumption | (refine below_drewN ?_ _) | (refine Below.drew ?_) | (refine Below.alloc ?_ (by first | omega | (simp; omega) | simp) _) | (refine Below.setCell ?_ (by first | omega | (simp; omega) | simp) _) | (refine below_trans ?_ (by assumption) (by first | omega | (simp; omega) | simp))))⟩
    · obtain ⟨q1, q2⟩ := nx_out h ha
      rw [q1, q2]
      by_cases hd : a < 0
      · have hd : decide (a < 0) = true := decide_eq_true hd
        clear h ha
        go_enter Try.func20, Try.ntmps20
        go_wp2_with (go_at_call 14; refine (hcheck_ok hH.out).mono ?_; rintro e w1 ⟨rfl, hb_w1⟩; obtain ⟨hc_w1, hf_w1⟩ := bcell hb_w1; have hz_w1_w_0 : w.heap.size < w1.heap.size := (by have hzz := hb_w1.size; (try simp only [World.size_alloc, World.size_setCell, World.size_drew, World.heap_drewN] at hzz); omega); have hs_w1 := hb_w1.size; (try simp only [World.size_alloc, World.size_setCell, World.size_drew, World.heap_drewN] at hs_w1))
        go_ret2
        exact ⟨rfl, (by repeat (first | exact Below.refl _ _ | assumption | (refine below_drewN ?_ _) | (refine Below.drew ?_) | (refine Below.alloc ?_ (by first | omega | (simp; omega) | simp) _) | (refine Below.setCell ?_ (by first | omega | (simp; omega) | simp) _) | (refine below_trans ?_ (by assumption) (by first | omega | (simp; omega) | simp))))⟩
      · have hd1 : decide (n < a) = true := decide_eq_true (by omega)
        have hd : decide (a < 0) = false := decide_eq_false hd
        clear h ha
        go_enter Try.func20, Try.ntmps20
        go_wp2_with (go_at_call 14; refine (hcheck_ok hH.out).mono ?_; rintro e w1 ⟨rfl, hb_w1⟩; obtain ⟨hc_w1, hf_w1⟩ := bcell hb_w1; have hz_w1_w_0 : w.heap.size < w1.heap.size := (by have hzz := hb_w1.size; (try simp only [World.size_alloc, World.size_setCell, World.size_drew, World.heap_drewN] at hzz); omega); have hs_w1 := hb_w1.size; (try simp only [World.size_alloc, World.size_setCell, World.size_drew, World.heap_drewN] at hs_w1))
        go_ret2
        exact ⟨rfl, (by repeat (first | exact Below.refl _ _ | assumption | (refine below_drewN ?_ _) | (refine Below.drew ?_) | (refine Below.alloc ?_ (by first | omega | (simp; omega) | simp) _) | (refine Below.setCell ?_ (by first | omega | (simp; omega) | simp) _) | (refine below_trans ?_ (by assumption) (by first | omega | (simp; omega) | simp))))⟩
  · have hH := Lib.hid h
    obtain ⟨q1, q2⟩ := nx_bad (a := a) h
    rw [q1, q2]
    clear h
    go_enter Try.func20, Try.ntmps20
    go_wp2_with (go_at_call 14; refine (hcheck_bad hm hH.out).mono ?_; rintro e w1 ⟨rfl, hb_w1⟩; obtain ⟨hc_w1, hf_w1⟩ := bcell hb_w1; have hz_w1_w_0 : w.heap.size < w1.heap.size := (by have hzz := hb_w1.size; (try simp only [World.size_alloc, World.size_setCell, World.size_drew, World.heap_drewN] at hzz); omega); have hs_w1 := hb_w1.size; (try simp only [World.size_alloc, World.size_setCell, World.size_drew, World.heap_drewN] at hs_w1))
    go_ret2
    exact ⟨rfl, (by repeat (first | exact Below.refl _ _ | assumption | (refine below_drewN ?_ _) | (refine Below.drew ?_) | (refine Below.alloc ?_ (by first | omega | (simp; omega) | simp) _) | (refine Below.setCell ?_ (by first | omega | (simp; omega) | simp) _) | (refine below_trans ?_ (by assumption) (by first | omega | (simp; omega) | simp))))⟩
set_option maxHeartbeats 1000000 in
theorem xnext_any (hm : m < W64) (a : Int) :
    Calls Try.prog 21 #[.agg #[.int .i64 n, .int .u64 (m : Nat)], .int .i64 a] w fun e w' => e = .returned (.tuple #[.int .i64 (nxN n m a), .int .i64 (nxY n m a)]) ∧ Below w.heap.size w w' := by
  by_cases h : Sh n m
  · have hH := Lib.hid h
    have h0 := h.1
    have h1 := h.2.1
    by_cases ha : 0 ≤ a ∧ a ≤ n
    · have hN := Lib.hid ha
      have hd : decide (a < 0) = false := decide_eq_false (by omega)
      have hd1 : decide (n < a) = false := decide_eq_false (by omega)
      obtain ⟨a0, a1⟩ := ha
      clear h
      go_enter Try.func21, Try.ntmps21
      go_wp2_with (go_at_call 15; refine (xcheck_ok hH.out).mono ?_; rintro e w1 ⟨rfl, hb_w1⟩; obtain ⟨hc_w1, hf_w1⟩ := bcell hb_w1; have hz_w1_w_0 : w.heap.size < w1.heap.size := (by have hzz := hb_w1.size; (try simp only [World.size_alloc, World.size_setCell, World.size_drew, World.heap_drewN] at hzz); omega); have hs_w1 := hb_w1.size; (try simp only [World.size_alloc, World.size_setCell, World.size_drew, World.heap_drewN] at hs_w1))
      have S1 : Sp w1 w.heap.size n m := (Sp.new w n m 24).later hb_w1
      have B1 : Below w.heap.size w w1 := (by repeat (first | exact Below.refl _ _ | assumption | (refine below_drewN ?_ _) | (refine Below.drew ?_) | (refine Below.alloc ?_ (by first | omega | (simp; omega) | simp) _) | (refine Below.setCell ?_ (by first | omega | (simp; omega) | simp) _) | (refine below_trans ?_ (by assumption) (by first | omega | (simp; omega) | simp))))
      clear hc_w1 hf_w1
      go_loopw [6] (fun i wr => ∃ k : Int, i = .int .i64 k ∧ a ≤ k ∧ k ≤ n ∧ nx m a.toNat (n - a).toNat = nx m k.toNat (n - k).toNat ∧ Sp wr w.heap.size n m ∧ Below w.heap.size w wr) (fun i _ => (n - intOf i).toNat)
      case atStart => exact ⟨a, rfl, by omega, by omega, rfl, S1, B1⟩
      case round =>
        obtain ⟨k, rfl, hk0, hk1, hx, hs, hb_wr⟩ := hrel
        have hX := Lib.hid hx
        clear hx
        have hsr := hb_wr.size
        have hsl := hs.lt
        obtain ⟨c0, c1⟩ := id hs
        by_cases hlt : k < n
        · have e : decide (k < n) = true := decide_eq_true hlt
          have e2 : (n - k).toNat = (n - (k + 1)).toNat + 1 := by omega
          rcases hbit : m.testBit k.toNat with _ | _
          · have HX : Hid (nx m a.toNat (n - a).toNat = nx m (k + 1).toNat (n - (k + 1)).toNat) := Lib.hid (by rw [hX.out, e2, nx_skip hbit, show (k + 1).toNat = k.toNat + 1 by omega])
            go_wp2_with (go_at_call 22; refine (xis_any k (by omega) (by omega)).mono ?_; rintro e w2 ⟨rfl, hb_w2⟩; rw [hbit]; obtain ⟨hc_w2, hf_w2⟩ := bcell hb_w2; have hs_w2 := hb_w2.size; (try simp only [World.size_alloc, World.size_setCell, World.size_drew, World.heap_drewN] at hs_w2))
            go_roundw
            case rel => exact ⟨k + 1, by go_num, by omega, by omega, HX.out, hs.later hb_w2, (by repeat (first | exact Below.refl _ _ | assumption | (refine below_drewN ?_ _) | (refine Below.drew ?_) | (refine Below.alloc ?_ (by first | omega | (simp; omega) | simp) _) | (refine Below.setCell ?_ (by first | omega | (simp; omega) | simp) _) | (refine below_trans ?_ (by assumption) (by first | omega | (simp; omega) | simp))))⟩
            case measure => simp [intOf]; omega
          · obtain ⟨q1, q2⟩ := nx_some hH.out hN.out (hX.out.trans (by rw [e2]; exact nx_hit hbit))
            replace q1 := q1.trans (show ((k.toNat : Nat) : Int) = k by omega)
            go_wp2_with (go_at_call 22; refine (xis_any k (by omega) (by omega)).mono ?_; rintro e w2 ⟨rfl, hb_w2⟩; rw [hbit]; obtain ⟨hc_w2, hf_w2⟩ := bcell hb_w2; have hs_w2 := hb_w2.size; (try simp only [World.size_alloc, World.size_setCell, World.size_drew, World.heap_drewN] at hs_w2))
            go_ret2
            exact ⟨by first | (rw [q1, q2]; done) | (rw [q1, q2]; rfl) | rfl, (by repeat (first | exact Below.refl _ _ | assumption | (refine below_drewN ?_ _) | (refine Below.drew ?_) | (refine Below.alloc ?_ (by first | omega | (simp; omega) | simp) _) | (refine Below.setCell ?_ (by first | omega | (simp; omega) | simp) _) | (refine below_trans ?_ (by assumption) (by first | omega | (simp; omega) | simp))))⟩
        · obtain rfl : k = n := by omega
          have e : decide (k < k) = false := decide_eq_false hlt
          obtain ⟨q1, q2⟩ := nx_none hH.out hN.out (hX.out.trans (by rw [Int.sub_self]; rfl))
          go_wp2
          go_ret2
          exact ⟨by first | (rw [q1, q2]; done) | (rw [q1, q2]; rfl) | rfl, (by repeat (first | exact Below.refl _ _ | assumption | (refine below_drewN ?_ _) | (refine Below.drew ?_) | (refine Below.alloc ?_ (by first | omega | (simp; omega) | simp) _) | (refine Below.setCell ?_ (by first | omega | (simp; omega) | simp) _) | (refine below_trans ?_ (by assumption) (by first | omega | (simp; omega) | simp))))⟩
    · obtain ⟨q1, q2⟩ := nx_out h ha
      rw [q1, q2]
      by_cases hd : a < 0
      · have hd : decide (a < 0) = true := decide_eq_true hd
        clear h ha
        go_enter Try.func21, Try.ntmps21
        go_wp2_with (go_at_call 15; refine (xcheck_ok hH.out).mono ?_; rintro e w1 ⟨rfl, hb_w1⟩; obtain ⟨hc_w1, hf_w1⟩ := bcell hb_w1; have hz_w1_w_0 : w.heap.size < w1.heap.size := (by have hzz := hb_w1.size; (try simp only [World.size_alloc, World.size_setCell, World.size_drew, World.heap_drewN] at hzz); omega); have hs_w1 := hb_w1.size; (try simp only [World.size_alloc, World.size_setCell, World.size_drew, World.heap_drewN] at hs_w1))
        go_ret2
        exact ⟨rfl, (by repeat (first | exact Below.refl _ _ | assumption | (refine below_drewN ?_ _) | (refine Below.drew ?_) | (refine Below.alloc ?_ (by first | omega | (simp; omega) | simp) _) | (refine Below.setCell ?_ (by first | omega | (simp; omega) | simp) _) | (refine below_trans ?_ (by assumption) (by first | omega | (simp; omega) | simp))))⟩
      · have hd1 : decide (n < a) = true := decide_eq_true (by omega)
        have hd : decide (a < 0) = false := decide_eq_false hd
        clear h ha
        go_enter Try.func21, Try.ntmps21
        go_wp2_with (go_at_call 15; refine (xcheck_ok hH.out).mono ?_; rintro e w1 ⟨rfl, hb_w1⟩; obtain ⟨hc_w1, hf_w1⟩ := bcell hb_w1; have hz_w1_w_0 : w.heap.size < w1.heap.size := (by have hzz := hb_w1.size; (try simp only [World.size_alloc, World.size_setCell, World.size_drew, World.heap_drewN] at hzz); omega); have hs_w1 := hb_w1.size; (try simp only [World.size_alloc, World.size_setCell, World.size_drew, World.heap_drewN] at hs_w1))
        go_ret2
        exact ⟨rfl, (by repeat (first | exact Below.refl _ _ | assumption | (refine below_drewN ?_ _) | (refine Below.drew ?_) | (refine Below.alloc ?_ (by first | omega | (simp; omega) | simp) _) | (refine Below.setCell ?_ (by first | omega | (simp; omega) | simp) _) | (refine below_trans ?_ (by assumption) (by first | omega | (simp; omega) | simp))))⟩
  · have hH := Lib.hid h
    obtain ⟨q1, q2⟩ := nx_bad (a := a) h
    rw [q1, q2]
    clear h
    go_enter Try.func21, Try.ntmps21
    go_wp2_with (go_at_call 15; refine (xcheck_bad hm hH.out).mono ?_; rintro e w1 ⟨rfl, hb_w1⟩; obtain ⟨hc_w1, hf_w1⟩ := bcell hb_w1; have hz_w1_w_0 : w.heap.size < w1.heap.size := (by have hzz := hb_w1.size; (try simp only [World.size_alloc, World.size_setCell, World.size_drew, World.heap_drewN] at hzz); omega); have hs_w1 := hb_w1.size; (try simp only [World.size_alloc, World.size_setCell, World.size_drew, World.heap_drewN] at hs_w1))
    go_ret2
    exact ⟨rfl, (by repeat (first | exact Below.refl _ _ | assumption | (refine below_drewN ?_ _) | (refine Below.drew ?_) | (refine Below.alloc ?_ (by first | omega | (simp; omega) | simp) _) | (refine Below.setCell ?_ (by first | omega | (simp; omega) | simp) _) | (refine below_trans ?_ (by assumption) (by first | omega | (simp; omega) | simp))))⟩
end
end Go.Proofs.Ytkfmhghjgdeekaa
