/- Contracts of grey: Check, Many, has, Make. -/
import Derived.Test.YtlaladhnidcoiaaG3
namespace Go.Proofs.Ytlaladhnidcoiaa
open Go.RowKit
set_option linter.unusedVariables false
set_option linter.unusedSimpArgs false

section
variable {w : World} {A : Option Addr} {qs : List (List Nat)} (cap : Nat)
theorem gview_ok (hr : GRow w A qs) (ho : OkG qs) : Calls Try.prog 23 #[gv A qs.length cap] w fun e w' => (∃ M, e = .returned (.tuple #[.map (some M), .int .i64 0]) ∧ w.heap.size ≤ M ∧ SetM w' M qs.flatten) ∧ Below w.heap.size w w' :=
  (gview_any cap hr).mono (fun e w' ⟨h, hb⟩ => ⟨by
    rcases h with ⟨_, h⟩ | ⟨h, _⟩
    · exact h
    · exact absurd ho h, hb⟩)
theorem gview_bad (hr : GRow w A qs) (ho : ¬ OkG qs) : Calls Try.prog 23 #[gv A qs.length cap] w fun e w' => e = .returned (.tuple #[.map none, .int .i64 2]) ∧ Below w.heap.size w w' :=
  (gview_any cap hr).mono (fun e w' ⟨h, hb⟩ => ⟨by
    rcases h with ⟨h, _⟩ | ⟨_, h⟩
    · exact absurd h ho
    · exact h, hb⟩)
theorem gcheck_any (hr : GRow w A qs) (y : Int) (hy : ChkG qs y) : Calls Try.prog 20 #[gv A qs.length cap] w fun e w' => e = .returned (.int .i64 y) ∧ Below w.heap.size w w' := by
  rcases hy with ⟨hok, rfl⟩ | ⟨hok, rfl⟩
  · have HV := Lib.hid fun (w : World) hr => gview_ok (w := w) (A := A) (qs := qs) cap hr hok
    clear hok
    unfold gv at *
    go_enter Try.func20, Try.ntmps20
    go_wp2_with fail
    go_at_call 23
    refine (HV.out _ (hr.later (by repeat (first | exact Below.refl _ _ | assumption | (refine below_drewN ?_ _) | (refine Below.drew ?_) | (refine Below.alloc ?_ (by first | omega | (simp; omega) | simp) _) | (refine Below.setCell ?_ (by first | omega | (simp; omega) | simp) _) | (refine below_trans ?_ (by assumption) (by first | omega | (simp; omega) | simp)))))).mono ?_
    rintro e w1 ⟨⟨M, rfl, _, _⟩, hb_w1⟩
    obtain ⟨hc_w1, hf_w1⟩ := bcell hb_w1; have hz_w1_w_0 : w.heap.size < w1.heap.size := (by have hzz := hb_w1.size; (try simp only [World.size_alloc, World.size_setCell, World.size_drew, World.heap_drewN] at hzz); omega); have hs_w1 := hb_w1.size; (try simp only [World.size_alloc, World.size_setCell, World.size_drew, World.heap_drewN] at hs_w1)
    go_wp2
    go_ret
    exact ⟨rfl, (by repeat (first | exact Below.refl _ _ | assumption | (refine below_drewN ?_ _) | (refine Below.drew ?_) | (refine Below.alloc ?_ (by first | omega | (simp; omega) | simp) _) | (refine Below.setCell ?_ (by first | omega | (simp; omega) | simp) _) | (refine below_trans ?_ (by assumption) (by first | omega | (simp; omega) | simp))))⟩
  · have HV := Lib.hid fun (w : World) hr => gview_bad (w := w) (A := A) (qs := qs) cap hr hok
    clear hok
    unfold gv at *
    go_enter Try.func20, Try.ntmps20
    go_wp2_with fail
    go_at_call 23
    refine (HV.out _ (hr.later (by repeat (first | exact Below.refl _ _ | assumption | (refine below_drewN ?_ _) | (refine Below.drew ?_) | (refine Below.alloc ?_ (by first | omega | (simp; omega) | simp) _) | (refine Below.setCell ?_ (by first | omega | (simp; omega) | simp) _) | (refine below_trans ?_ (by assumption) (by first | omega | (simp; omega) | simp)))))).mono ?_
    rintro e w1 ⟨rfl, hb_w1⟩
    obtain ⟨hc_w1, hf_w1⟩ := bcell hb_w1; have hz_w1_w_0 : w.heap.size < w1.heap.size := (by have hzz := hb_w1.size; (try simp only [World.size_alloc, World.size_setCell, World.size_drew, World.heap_drewN] at hzz); omega); have hs_w1 := hb_w1.size; (try simp only [World.size_alloc, World.size_setCell, World.size_drew, World.heap_drewN] at hs_w1)
    go_wp2
    go_ret
    exact ⟨rfl, (by repeat (first | exact Below.refl _ _ | assumption | (refine below_drewN ?_ _) | (refine Below.drew ?_) | (refine Below.alloc ?_ (by first | omega | (simp; omega) | simp) _) | (refine Below.setCell ?_ (by first | omega | (simp; omega) | simp) _) | (refine below_trans ?_ (by assumption) (by first | omega | (simp; omega) | simp))))⟩
theorem gmany_any (hr : GRow w A qs) (n : Nat) (y : Int) (hy : ManE qs n y) : Calls Try.prog 16 #[gv A qs.length cap] w fun e w' => e = .returned (.tuple #[.int .i64 (n : Nat), .int .i64 y]) ∧ Below w.heap.size w w' := by
  obtain ⟨tE, hmt, _⟩ := zeroU
  rcases hy with ⟨hok, rfl, rfl⟩ | ⟨hok, rfl, rfl⟩
  · have HV := Lib.hid fun (w : World) hr => gview_bad (w := w) (A := A) (qs := qs) cap hr hok
    have hln : ∀ ty (w : World), (Builtin.len_ #[47] ty #[.map none]).run Try.prog w = .ok (.int .i64 0) w := fun ty w => Maps.len_nil hmt ty
    clear hok
    unfold gv at *
    go_enter Try.func16, Try.ntmps16
    go_wp2_with fail
    go_at_call 23
    refine (HV.out _ (hr.later (by repeat (first | exact Below.refl _ _ | assumption | (refine below_drewN ?_ _) | (refine Below.drew ?_) | (refine Below.alloc ?_ (by first | omega | (simp; omega) | simp) _) | (refine Below.setCell ?_ (by first | omega | (simp; omega) | simp) _) | (refine below_trans ?_ (by assumption) (by first | omega | (simp; omega) | simp)))))).mono ?_
    rintro e w1 ⟨rfl, hb_w1⟩
    obtain ⟨hc_w1, hf_w1⟩ := bcell hb_w1; have hz_w1_w_0 : w.heap.size < w1.heap.size := (by have hzz := hb_w1.size; (try simp only [World.size_alloc, World.size_setCell, World.size_drew, World.heap_drewN] at hzz); omega); have hs_w1 := hb_w1.size; (try simp only [World.size_alloc, World.size_setCell, World.size_drew, World.heap_drewN] at hs_w1)
    go_wp2
    go_ret2
    exact ⟨rfl, (by repeat (first | exact Below.refl _ _ | assumption | (refine below_drewN ?_ _) | (refine Below.drew ?_) | (refine Below.alloc ?_ (by first | omega | (simp; omega) | simp) _) | (refine Below.setCell ?_ (by first | omega | (simp; omega) | simp) _) | (refine below_trans ?_ (by assumption) (by first | omega | (simp; omega) | simp))))⟩
  · have HV := Lib.hid fun (w : World) hr => gview_ok (w := w) (A := A) (qs := qs) cap hr hok
    have hsz := size_kset hok.nd
    have HSZ := Lib.hid hsz
    clear hok hsz
    unfold gv at *
    go_enter Try.func16, Try.ntmps16
    go_wp2_with fail
    go_at_call 23
    refine (HV.out _ (hr.later (by repeat (first | exact Below.refl _ _ | assumption | (refine below_drewN ?_ _) | (refine Below.drew ?_) | (refine Below.alloc ?_ (by first | omega | (simp; omega) | simp) _) | (refine Below.setCell ?_ (by first | omega | (simp; omega) | simp) _) | (refine below_trans ?_ (by assumption) (by first | omega | (simp; omega) | simp)))))).mono ?_
    rintro e w1 ⟨⟨M, rfl, _, hS⟩, hb_w1⟩
    obtain ⟨hc_w1, hf_w1⟩ := bcell hb_w1; have hz_w1_w_0 : w.heap.size < w1.heap.size := (by have hzz := hb_w1.size; (try simp only [World.size_alloc, World.size_setCell, World.size_drew, World.heap_drewN] at hzz); omega); have hs_w1 := hb_w1.size; (try simp only [World.size_alloc, World.size_setCell, World.size_drew, World.heap_drewN] at hs_w1)
    go_wp2_with (first | (at_len; refine wpList_len_own _ rfl _ 47 rfl 30 tE hmt _ M _ _ rfl hS ?_) | go_in)
    go_ret2
    exact ⟨by rw [HSZ.out]; rfl, (by repeat (first | exact Below.refl _ _ | assumption | (refine below_drewN ?_ _) | (refine Below.drew ?_) | (refine Below.alloc ?_ (by first | omega | (simp; omega) | simp) _) | (refine Below.setCell ?_ (by first | omega | (simp; omega) | simp) _) | (refine below_trans ?_ (by assumption) (by first | omega | (simp; omega) | simp))))⟩
theorem ghas_any (n : Nat) (hn : n ≤ 5864062014805) (x : Int) (hx : -9223372036854775808 ≤ x ∧ x ≤ 9223372036854775807) (b : Bool) (hb : b = true ↔ (0 ≤ x ∧ x < n)) : Calls Try.prog 25 #[gv A n cap, .int .i64 x] w fun e w' => e = .returned (.bool b) ∧ Below w.heap.size w w' := by
  unfold gv
  by_cases h0 : 0 ≤ x
  · have f0 : decide (0 ≤ x) = true := by simpa using h0
    have f1 : decide (x < (n : Int)) = b := by
      rw [Bool.eq_iff_iff, hb, decide_eq_true_eq]
      omega
    have HF := Lib.hid f1
    clear hb f1
    go_enter Try.func25, Try.ntmps25
    go_wp2
    go_ret
    exact ⟨by rw [HF.out]; rfl, (by repeat (first | exact Below.refl _ _ | assumption | (refine below_drewN ?_ _) | (refine Below.drew ?_) | (refine Below.alloc ?_ (by first | omega | (simp; omega) | simp) _) | (refine Below.setCell ?_ (by first | omega | (simp; omega) | simp) _) | (refine below_trans ?_ (by assumption) (by first | omega | (simp; omega) | simp))))⟩
  · have f0 : decide (0 ≤ x) = false := by simpa using h0
    have f1 : b = false := by
      cases b
      · rfl
      · exact absurd (hb.1 rfl).1 h0
    subst f1
    clear hb
    go_enter Try.func25, Try.ntmps25
    go_wp2
    go_ret
    exact ⟨rfl, (by repeat (first | exact Below.refl _ _ | assumption | (refine below_drewN ?_ _) | (refine Below.drew ?_) | (refine Below.alloc ?_ (by first | omega | (simp; omega) | simp) _) | (refine Below.setCell ?_ (by first | omega | (simp; omega) | simp) _) | (refine below_trans ?_ (by assumption) (by first | omega | (simp; omega) | simp))))⟩
end
/-- what Make answers -/
def MakG (w : World) (x : Int) (e : Ending) (w' : World) : Prop :=
  (¬ (1 ≤ x ∧ x ≤ 4) ∧ e = .returned (.tuple #[gv none 0 0, .int .i64 1])) ∨
  (1 ≤ x ∧ x ≤ 4 ∧ ∃ (B : Option Addr) (n : Nat), x = n ∧ e = .returned (.tuple #[gv B n n, .int .i64 0]) ∧ GOwn w' w.heap.size B (List.replicate n []))
theorem nq_rep (n i : Nat) : nq (List.replicate n []) i = [] := by
  by_cases h : i < n
  · rw [nq_get _ _ (by simpa using h)]; simp
  · exact nq_out _ _ (by simpa using h)
theorem gown_rep {w : World} {B g n : Nat} (hB : B ≤ g) (hn : n ≤ 4) (hb : w.heap[g]? = some (.cells (madeCells #[Value.slice none 0 0] n) 25)) : GOwn w B (some ⟨g, 0, none⟩) (List.replicate n []) :=
  ⟨⟨by simp; omega, fun i => by rw [nq_rep]; simp⟩, fun hl => by
    refine ⟨g, rfl, hB, heap_lt hb, fun i hi => ⟨none, 0, ?_, by rw [nq_rep]; exact QOwn.nil _ _ _, fun o e => by (cases e), by rw [nq_rep]; simp, fun _ => rfl⟩⟩
    rw [List.length_replicate] at hi
    rw [nq_rep, cell_of_row w g i _ _ _ hb, ← Array.getElem?_toList, toList_madeCells_one]
    simp [hi]⟩
section
variable {w : World}
theorem run_make_q (n : Nat) (hn : n ≤ 4) (W : World) :
    (Instr.makeSlice 22 (.int .i64 (n : Int)) (.int .i64 (n : Int))).run Try.prog W = .ok (.slice (some ⟨W.heap.size, 0, none⟩) n n) (W.alloc (.cells (madeCells #[Value.slice none 0 0] n) 25)) := by
  obtain ⟨i0, hi, hz0, hz1, hz2⟩ := info_parts info_q
  have h := run_make (P := Try.prog) W 22 25 i0 _ Try.underlying22 hi hz0 .i64 .i64 (n : Int) (n : Int) (by omega) (by omega) (by rw [hz2]; omega) (by omega)
  rw [h, hz1, Nat.mul_one, Int.toNat_natCast]
  rfl
theorem gmake_any (x : Int) : Calls Try.prog 18 #[.int .i64 x] w fun e w' => MakG w x e w' ∧ Below w.heap.size w w' := by
  unfold MakG gv
  by_cases h1 : 1 ≤ x
  · have f1 : decide (x < 1) = false := by simp; omega
    by_cases h2 : x ≤ 4
    · have f2 : decide (4 < x) = false := by simp; omega
      obtain ⟨n, rfl⟩ := Int.eq_ofNat_of_zero_le (by omega : 0 ≤ x)
      have hn : n ≤ 4 := by omega
      have hmk := run_make_q n hn
      have H12 := Lib.hid (And.intro h1 h2)
      clear h1 h2
      go_enter Try.func18, Try.ntmps18
      go_wp2
      refine bodyPost_ret (res_g2 rfl rfl (g := w.heap.size) (v0 := .slice (some ⟨w.heap.size + 1, 0, none⟩) n n) (by simp [go_sem])) rfl ⟨.inr ⟨H12.out.1, H12.out.2, some ⟨w.heap.size + 1, 0, none⟩, n, rfl, rfl, ?_⟩, (by repeat (first | exact Below.refl _ _ | assumption | (refine below_drewN ?_ _) | (refine Below.drew ?_) | (refine Below.alloc ?_ (by first | omega | (simp; omega) | simp) _) | (refine Below.setCell ?_ (by first | omega | (simp; omega) | simp) _) | (refine below_trans ?_ (by assumption) (by first | omega | (simp; omega) | simp))))⟩
      exact (gown_rep (B := w.heap.size + 1) (g := w.heap.size + 1) (Nat.le_refl _) hn (block2 _ _ _)).mono (Nat.le_succ _)
    · have f2 : decide (4 < x) = true := by simp; omega
      have hb : ¬ (1 ≤ x ∧ x ≤ 4) := by omega
      have HB := Lib.hid hb
      clear h1 h2 hb
      go_enter Try.func18, Try.ntmps18
      go_wp2
      exact bodyPost_ret (res_g2 rfl rfl (g := w.heap.size) (v0 := .slice none 0 0) (by simp [go_sem])) rfl ⟨.inl ⟨HB.out, rfl⟩, (by repeat (first | exact Below.refl _ _ | assumption | (refine below_drewN ?_ _) | (refine Below.drew ?_) | (refine Below.alloc ?_ (by first | omega | (simp; omega) | simp) _) | (refine Below.setCell ?_ (by first | omega | (simp; omega) | simp) _) | (refine below_trans ?_ (by assumption) (by first | omega | (simp; omega) | simp))))⟩
  · have f1 : decide (x < 1) = true := by simp; omega
    have hb : ¬ (1 ≤ x ∧ x ≤ 4) := by omega
    have HB := Lib.hid hb
    clear h1 hb
    go_enter Try.func18, Try.ntmps18
    go_wp2
    exact bodyPost_ret (res_g2 rfl rfl (g := w.heap.size) (v0 := .slice none 0 0) (by simp [go_sem])) rfl ⟨.inl ⟨HB.out, rfl⟩, (by repeat (first | exact Below.refl _ _ | assumption | (refine below_drewN ?_ _) | (refine Below.drew ?_) | (refine Below.alloc ?_ (by first | omega | (simp; omega) | simp) _) | (refine Below.setCell ?_ (by first | omega | (simp; omega) | simp) _) | (refine below_trans ?_ (by assumption) (by first | omega | (simp; omega) | simp))))⟩
theorem xgmake_any (x : Int) : Calls Try.prog 19 #[.int .i64 x] w fun e w' => MakG w x e w' ∧ Below w.heap.size w w' := by
  unfold MakG gv
  by_cases h1 : 1 ≤ x
  · have f1 : decide (x < 1) = false := by simp; omega
    by_cases h2 : x ≤ 4
    · have f2 : decide (4 < x) = false := by simp; omega
      obtain ⟨n, rfl⟩ := Int.eq_ofNat_of_zero_le (by omega : 0 ≤ x)
      have hn : n ≤ 4 := by omega
      have hmk := run_make_q n hn
      have H12 := Lib.hid (And.intro h1 h2)
      clear h1 h2
      go_enter Try.func19, Try.ntmps19
      go_wp2
      refine bodyPost_ret (res_g2 rfl rfl (g := w.heap.size) (v0 := .slice (some ⟨w.heap.size + 1, 0, none⟩) n n) (by simp [go_sem])) rfl ⟨.inr ⟨H12.out.1, H12.out.2, some ⟨w.heap.size + 1, 0, none⟩, n, rfl, rfl, ?_⟩, (by repeat (first | exact Below.refl _ _ | assumption | (refine below_drewN ?_ _) | (refine Below.drew ?_) | (refine Below.alloc ?_ (by first | omega | (simp; omega) | simp) _) | (refine Below.setCell ?_ (by first | omega | (simp; omega) | simp) _) | (refine below_trans ?_ (by assumption) (by first | omega | (simp; omega) | simp))))⟩
      exact (gown_rep (B := w.heap.size + 1) (g := w.heap.size + 1) (Nat.le_refl _) hn (block2 _ _ _)).mono (Nat.le_succ _)
    · have f2 : decide (4 < x) = true := by simp; omega
      have hb : ¬ (1 ≤ x ∧ x ≤ 4) := by omega
      have HB := Lib.hid hb
      clear h1 h2 hb
      go_enter Try.func19, Try.ntmps19
      go_wp2
      exact bodyPost_ret (res_g2 rfl rfl (g := w.heap.size) (v0 := .slice none 0 0) (by simp [go_sem])) rfl ⟨.inl ⟨HB.out, rfl⟩, (by repeat (first | exact Below.refl _ _ | assumption | (refine below_drewN ?_ _) | (refine Below.drew ?_) | (refine Below.alloc ?_ (by first | omega | (simp; omega) | simp) _) | (refine Below.setCell ?_ (by first | omega | (simp; omega) | simp) _) | (refine below_trans ?_ (by assumption) (by first | omega | (simp; omega) | simp))))⟩
  · have f1 : decide (x < 1) = true := by simp; omega
    have hb : ¬ (1 ≤ x ∧ x ≤ 4) := by omega
    have HB := Lib.hid hb
    clear h1 hb
    go_enter Try.func19, Try.ntmps19
    go_wp2
    exact bodyPost_ret (res_g2 rfl rfl (g := w.heap.size) (v0 := .slice none 0 0) (by simp [go_sem])) rfl ⟨.inl ⟨HB.out, rfl⟩, (by repeat (first | exact Below.refl _ _ | assumption | (refine below_drewN ?_ _) | (refine Below.drew ?_) | (refine Below.alloc ?_ (by first | omega | (simp; omega) | simp) _) | (refine Below.setCell ?_ (by first | omega | (simp; omega) | simp) _) | (refine below_trans ?_ (by assumption) (by first | omega | (simp; omega) | simp))))⟩
end
end Go.Proofs.Ytlaladhnidcoiaa
