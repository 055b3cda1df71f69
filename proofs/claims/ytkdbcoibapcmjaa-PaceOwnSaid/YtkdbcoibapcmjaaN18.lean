/- The document's own pacers: copies, goals, whether two are one; sums. -/
import Derived.Test.YtkdbcoibapcmjaaN7
import Derived.Test.YtkdbcoibapcmjaaN17
import Derived.Deep.AppendLies
namespace Go.Proofs.Ytkdbcoibapcmjaa
open Go.RowKit
set_option linter.unusedVariables false
set_option linter.unusedSimpArgs false
set_option maxRecDepth 100000

theorem xpleast_any {x y : Int} {a b : Nat} (w : World) (hx : x = (a : Int)) (hy : y = (b : Int)) : Calls Try.prog 39 #[.int .u64 x, .int .u64 y] w fun e w' => e = .returned (.int .u64 (min a b : Nat)) ∧ w = w' := by
  subst hx hy
  go_enter Try.func39, Try.ntmps39
  go_wp2
  all_goals
    go_ret
    exact ⟨ret_int (by omega), rfl⟩
theorem xpsum_any {x y : Int} {a b : Nat} (w : World) (hx : x = (a : Int)) (hy : y = (b : Int)) (ha : a ≤ 1099511627776) (hb : b ≤ 1099511627776) : Calls Try.prog 38 #[.int .u64 x, .int .u64 y] w fun e w' => e = .returned (.int .u64 (cp (a + b) : Nat)) ∧ w = w' := by
  subst hx hy
  have HC : Hid (cp (a + b) = min 1099511627776 (a + b)) := Lib.hid (by unfold cp; omega)
  have hw : IntKind.u64.wrap ((a : Int) + (b : Int)) = (a : Int) + (b : Int) := by rw [IntKind.wrap_u64]; omega
  have hL := Lib.hid fun (w : World) (y : Int) (hy : y = ((a + b : Nat) : Int)) => xpleast_any (x := 1099511627776) (a := 1099511627776) w (by rfl) hy
  rw [← HC.out] at hL
  generalize cp (a + b) = z at *
  clear HC
  go_enter Try.func38, Try.ntmps38
  go_wp2_with (go_at_call 39; refine (hL.out _ _ (by simp)).mono ?_; rintro e w1 ⟨rfl, rfl⟩)
  go_ret
  exact ⟨rfl, rfl⟩
section
variable {w : World} {p : Pc} {A : Option Addr} (c : Nat)
set_option maxHeartbeats 2000000 in
theorem xpcopy_any (hr : Row w w.heap.size A p.ds) (hl : p.ds.length ≤ 17592186044416) :
    Calls Try.prog 19 #[(.agg #[.int .i64 p.pct, .int .u64 (p.least : Nat), .int .u64 (p.live : Nat), .bool p.on, .int .u64 (p.est : Nat), .int .u64 (p.room : Nat), .int .u64 (p.credit : Nat), .int .u64 (p.done : Nat), .int .u64 (p.made : Nat), .slice A p.ds.length c])] w fun e w' => ∃ A' c', e = .returned (.agg #[.int .i64 p.pct, .int .u64 (p.least : Nat), .int .u64 (p.live : Nat), .bool p.on, .int .u64 (p.est : Nat), .int .u64 (p.room : Nat), .int .u64 (p.credit : Nat), .int .u64 (p.done : Nat), .int .u64 (p.made : Nat), .slice A' p.ds.length c']) ∧ OwnD w' w.heap.size A' c' p.ds ∧ Below w.heap.size w w' := by
  obtain ⟨i0, hi, hz0, hz1, hz2⟩ := info_parts info_u64
  by_cases h0 : 0 < p.ds.length
  · obtain ⟨b, off, rfl, hbb, hcc⟩ := hr.at_ h0
    have hsrc := Lib.hid fun (W : World) (hW : Below w.heap.size w W) => hr.src2 hW (b := b) (off := off)
    have HW := Lib.hid hr.words
    clear hcc hr
    obtain ⟨pct, least, live, on, est, room, credit, done, made, ds⟩ := p
    simp only at *
    have HO := own_emptyN ((w.alloc (.cells #[.int .i64 pct, .int .u64 (least : Nat), .int .u64 (live : Nat), .bool on, .int .u64 (est : Nat), .int .u64 (room : Nat), .int .u64 (credit : Nat), .int .u64 (done : Nat), .int .u64 (made : Nat), .slice (some ⟨b, off, none⟩) ds.length c] 25)).alloc (.cells #[.int .i64 0, .int .u64 0, .int .u64 0, .bool false, .int .u64 0, .int .u64 0, .int .u64 0, .int .u64 0, .int .u64 0, .slice none 0 0] 25)) _ (w.heap.size + 2) (by simp) rfl
    have t1 := (Ten.new w (.int .i64 pct) (.int .u64 (least : Nat)) (.int .u64 (live : Nat)) (.bool on) (.int .u64 (est : Nat)) (.int .u64 (room : Nat)) (.int .u64 (credit : Nat)) (.int .u64 (done : Nat)) (.int .u64 (made : Nat)) (.slice (some ⟨b, off, none⟩) ds.length c) 25).later ((Below.refl _ _).alloc (Nat.le_refl _) (.cells #[.int .i64 0, .int .u64 0, .int .u64 0, .bool false, .int .u64 0, .int .u64 0, .int .u64 0, .int .u64 0, .int .u64 0, .slice none 0 0] 25))
    have t0 := Ten.new (w.alloc (.cells #[.int .i64 pct, .int .u64 (least : Nat), .int .u64 (live : Nat), .bool on, .int .u64 (est : Nat), .int .u64 (room : Nat), .int .u64 (credit : Nat), .int .u64 (done : Nat), .int .u64 (made : Nat), .slice (some ⟨b, off, none⟩) ds.length c] 25)) (.int .i64 0) (.int .u64 0) (.int .u64 0) (.bool false) (.int .u64 0) (.int .u64 0) (.int .u64 0) (.int .u64 0) (.int .u64 0) (.slice none 0 0) 25
    have t0 := t0.later ((Below.refl _ _).alloc (Nat.le_refl _) (.cells #[] 22))
    have t1 := t1.later ((Below.refl _ _).alloc (Nat.le_refl _) (.cells #[] 22))
    simp only [World.size_alloc] at HO t0 t1
    have HOWN := Lib.hid HO
    have T0 := Lib.hid t0
    have T1 := Lib.hid t1
    clear HO t0 t1
    go_enter Try.func19, Try.ntmps19
    go_wp2_with (at_builtin; refine wpList_append_lies _ ?_ (.tmp 3) (.tmp 5) 23 ?_ (w.heap.size + 2) 22 i0 _ 1 8 Try.underlying23 hi hz0 hz1 hz2 rfl (by omega) (.slice (some ⟨w.heap.size + 1 + 1, 0, none⟩) 0 0) 0 [] ?_ ?_ ⟨b, off, none⟩ ds.length c (vals ds) ?_ (by rw [length_vals, Nat.mul_one]) (hsrc.out _ (by repeat (first | exact Below.refl _ _ | assumption | (refine below_drewN ?_ _) | (refine Below.drew ?_) | (refine Below.alloc ?_ (by first | omega | (simp; omega) | simp) _) | (refine Below.setCell ?_ (by first | omega | (simp; omega) | simp) _) | (refine below_trans ?_ (by assumption) (by first | omega | (simp; omega) | simp))))) (vals_one ds) h0 (by unfold maxLen; omega) (by omega) (by simp only [World.size_alloc]; omega) _ rfl ?_; rfl; rfl; rfl; exact HOWN.out; rfl; intro g cap2 w2 hown2 hg2 hat2 hlt2; simp only [Nat.zero_add, List.nil_append] at hown2; have hb_w2 : Below (w.heap.size + 2) _ w2 := (Below.refl _ _).grown hg2 (by simp only [World.size_alloc]; omega) (fun k hk => (by simp [Value.ownBlock] at hk; omega)); have t0 := T0.out.below hb_w2 (by omega); have t1 := T1.out.below hb_w2 (by omega); have oD := (⟨rfl, HW.out, hown2⟩ : OwnsN w2 (w.heap.size + 2) (some ⟨g, 0, none⟩) ds.length cap2 ds).d; have b2 : Below w.heap.size w w2 := below_trans ((((Below.refl w.heap.size w).alloc (Nat.le_refl _) _).alloc (by simp) _).alloc (by simp; omega) _) (hb_w2.mono (by omega)) (Nat.le_refl _); have s2 := hb_w2.size; simp only [World.size_alloc] at s2; clear hown2 hg2 hat2 hlt2; obtain ⟨x0, x1, x2, x3, x4, x5, x6, x7, x8, x9, xf⟩ := id t1; obtain ⟨y0, y1, y2, y3, y4, y5, y6, y7, y8, y9, yf⟩ := id t0)
    have t0' := t0.far (p := ⟨w.heap.size, 9, none⟩) (by show w.heap.size ≠ w.heap.size + 1; omega) (.slice (some ⟨g, 0, none⟩) ds.length cap2)
    have oD' := oD.far (p := ⟨w.heap.size, 9, none⟩) (.inl (by show w.heap.size < w.heap.size + 2; omega)) (.slice (some ⟨g, 0, none⟩) ds.length cap2)
    exact bodyPost_ret (res_pp1 rfl rfl (t0'.all _ _ _ _ _ _ _ _ _ _)) rfl ⟨_, cap2, rfl, (oD'.ten (.inl (by omega)) _ _ _ _ _ _ _ _ _ _).mono (by omega), below_ten (b2.setCell (p := ⟨w.heap.size, 9, none⟩) (Nat.le_refl _) _) (by omega) _ _ _ _ _ _ _ _ _ _⟩
  · have hlz : p.ds = [] := List.eq_nil_of_length_eq_zero (by omega)
    obtain ⟨pct, least, live, on, est, room, credit, done, made, ds⟩ := p
    simp only at *
    subst hlz
    clear h0 hl
    simp only [List.length_nil]
    cases A
    all_goals
      go_enter Try.func19, Try.ntmps19
      go_wp2
      exact bodyPost_ret (res_pp1 rfl rfl (b := w.heap.size + 1) (by constructor <;> (simp [go_sem] <;> rfl))) rfl ⟨_, 0, rfl, ⟨⟨fun x hx => by simp at hx, fun h => by simp at h⟩, by simp, fun e => (by cases e)⟩, (by repeat (first | exact Below.refl _ _ | assumption | (refine below_drewN ?_ _) | (refine Below.drew ?_) | (refine Below.alloc ?_ (by first | omega | (simp; omega) | simp) _) | (refine Below.setCell ?_ (by first | omega | (simp; omega) | simp) _) | (refine below_trans ?_ (by assumption) (by first | omega | (simp; omega) | simp))))⟩
theorem xpgoal_any (hk : OkP p) :
    Calls Try.prog 31 #[(.agg #[.int .i64 p.pct, .int .u64 (p.least : Nat), .int .u64 (p.live : Nat), .bool p.on, .int .u64 (p.est : Nat), .int .u64 (p.room : Nat), .int .u64 (p.credit : Nat), .int .u64 (p.done : Nat), .int .u64 (p.made : Nat), .slice A p.ds.length c])] w fun e w' => e = .returned (.int .u64 (goalP p : Nat)) ∧ Below w.heap.size w w' := by
  have h1 := hk.pct1; have h2 := hk.pct2; have h3 := hk.live; have h4 := hk.least2; have h5 := hk.least1
  obtain ⟨m, hm⟩ : ∃ m, p.live * p.pct.toNat = m := ⟨_, rfl⟩
  obtain ⟨k, hkk⟩ : ∃ k : Nat, p.pct = (k : Int) := ⟨p.pct.toNat, by omega⟩
  have hm2 : m ≤ 1099511627776 * 10000 := by rw [← hm]; exact prod_le h3 (by omega)
  have hm3 : (p.live : Int) * p.pct = (m : Int) := by rw [← hm, hkk, Int.toNat_natCast]; simp
  have HG : Hid (goalP p = min 1099511627776 (max (p.live + m / 100) p.least)) := Lib.hid (by unfold goalP; rw [hm]; omega)
  have c1 : IntKind.u64.wrap p.pct = p.pct := by rw [IntKind.wrap_u64]; omega
  have c2 : IntKind.u64.wrap (m : Int) = (m : Int) := by rw [IntKind.wrap_u64]; omega
  have HL := Lib.hid fun (w : World) (y : Int) (x : Nat) (hy : y = (x : Int)) => xpleast_any (x := 1099511627776) (a := 1099511627776) w (by rfl) hy
  clear hk hkk hm
  generalize goalP p = g at *
  obtain ⟨pct, least, live, on, est, room, credit, done, made, ds⟩ := p
  simp only at *
  by_cases hlt : live + m / 100 < least
  · have HG2 : Hid (g = min 1099511627776 least) := Lib.hid (by rw [HG.out]; omega)
    rw [HG2.out]
    clear HG HG2
    go_enter Try.func31, Try.ntmps31
    go_wp2_with (go_at_call 39; refine (HL.out _ _ _ (by first | rfl | omega)).mono ?_; rintro e w1 ⟨rfl, rfl⟩)
    go_ret
    exact ⟨ret_int (by omega), (by repeat (first | exact Below.refl _ _ | assumption | (refine below_drewN ?_ _) | (refine Below.drew ?_) | (refine Below.alloc ?_ (by first | omega | (simp; omega) | simp) _) | (refine Below.setCell ?_ (by first | omega | (simp; omega) | simp) _) | (refine below_trans ?_ (by assumption) (by first | omega | (simp; omega) | simp))))⟩
  · have HG2 : Hid (g = min 1099511627776 (live + m / 100)) := Lib.hid (by rw [HG.out]; omega)
    rw [HG2.out]
    clear HG HG2
    go_enter Try.func31, Try.ntmps31
    go_wp2_with (go_at_call 39; refine (HL.out _ _ _ (by first | rfl | omega)).mono ?_; rintro e w1 ⟨rfl, rfl⟩)
    go_ret
    exact ⟨ret_int (by omega), (by repeat (first | exact Below.refl _ _ | assumption | (refine below_drewN ?_ _) | (refine Below.drew ?_) | (refine Below.alloc ?_ (by first | omega | (simp; omega) | simp) _) | (refine Below.setCell ?_ (by first | omega | (simp; omega) | simp) _) | (refine below_trans ?_ (by assumption) (by first | omega | (simp; omega) | simp))))⟩
set_option maxHeartbeats 2000000 in
theorem xpsame_ok {C : Option Addr} (cc : Nat) (hr : Row w w.heap.size A p.ds) (hq : Row w w.heap.size C p.ds) (hl : p.ds.length ≤ 17592186044416) :
    Calls Try.prog 16 #[(.agg #[.int .i64 p.pct, .int .u64 (p.least : Nat), .int .u64 (p.live : Nat), .bool p.on, .int .u64 (p.est : Nat), .int .u64 (p.room : Nat), .int .u64 (p.credit : Nat), .int .u64 (p.done : Nat), .int .u64 (p.made : Nat), .slice A p.ds.length c]), (.agg #[.int .i64 p.pct, .int .u64 (p.least : Nat), .int .u64 (p.live : Nat), .bool p.on, .int .u64 (p.est : Nat), .int .u64 (p.room : Nat), .int .u64 (p.credit : Nat), .int .u64 (p.done : Nat), .int .u64 (p.made : Nat), .slice C p.ds.length cc])] w fun e w' => e = .returned (.bool true) ∧ Below w.heap.size w w' := by
  have HS := Lib.hid fun (w : World) hr hq => xsameN_any (w := w) (A := A) (C := C) (t := p.ds) (u := p.ds) c cc hr hq hl hl true ⟨fun _ => rfl, fun _ => rfl⟩
  obtain ⟨pct, least, live, on, est, room, credit, done, made, ds⟩ := p
  simp only at *
  have e1 : (pct == pct) = true := by simp
  have e2 : ((least : Int) == (least : Int)) = true := by simp
  have e3 : ((live : Int) == (live : Int)) = true := by simp
  have e4 : (on == on) = true := by simp
  go_enter Try.func16, Try.ntmps16
  go_wp2_with fail
  go_at_call 32
  refine (HS.out _ (hr.later (by repeat (first | exact Below.refl _ _ | assumption | (refine below_drewN ?_ _) | (refine Below.drew ?_) | (refine Below.alloc ?_ (by first | omega | (simp; omega) | simp) _) | (refine Below.setCell ?_ (by first | omega | (simp; omega) | simp) _) | (refine below_trans ?_ (by assumption) (by first | omega | (simp; omega) | simp))))) (hq.later (by repeat (first | exact Below.refl _ _ | assumption | (refine below_drewN ?_ _) | (refine Below.drew ?_) | (refine Below.alloc ?_ (by first | omega | (simp; omega) | simp) _) | (refine Below.setCell ?_ (by first | omega | (simp; omega) | simp) _) | (refine below_trans ?_ (by assumption) (by first | omega | (simp; omega) | simp)))))).mono ?_
  rintro e w1 ⟨rfl, hb_w1⟩
  obtain ⟨hc_w1, hf_w1⟩ := bcell hb_w1; have hz_w1_w_0 : w.heap.size < w1.heap.size := (by have hzz := hb_w1.size; (try simp only [World.size_alloc, World.size_setCell, World.size_drew, World.heap_drewN] at hzz); omega); have hz_w1_w_1 : w.heap.size + 1 < w1.heap.size := (by have hzz := hb_w1.size; (try simp only [World.size_alloc, World.size_setCell, World.size_drew, World.heap_drewN] at hzz); omega); have hs_w1 := hb_w1.size; (try simp only [World.size_alloc, World.size_setCell, World.size_drew, World.heap_drewN] at hs_w1)
  go_wp2
  go_ret
  exact ⟨rfl, (by repeat (first | exact Below.refl _ _ | assumption | (refine below_drewN ?_ _) | (refine Below.drew ?_) | (refine Below.alloc ?_ (by first | omega | (simp; omega) | simp) _) | (refine Below.setCell ?_ (by first | omega | (simp; omega) | simp) _) | (refine below_trans ?_ (by assumption) (by first | omega | (simp; omega) | simp))))⟩
end
end Go.Proofs.Ytkdbcoibapcmjaa
