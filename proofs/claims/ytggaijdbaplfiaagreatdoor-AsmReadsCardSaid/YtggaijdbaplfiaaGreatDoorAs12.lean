/- Contracts: strings.Join; package asm: line. -/
import Derived.Test.YtggaijdbaplfiaaGreatDoorAs11
import Derived.Test.YtggaijdbaplfiaaGreatDoorAs10
import Derived.Laws.OwnMore
namespace Go.Proofs.YtggaijdbaplfiaaGreatDoor
open Go.RowKit
set_option linter.unusedVariables false
set_option linter.unusedSimpArgs false
def sv (s : List UInt8) : Value := .string (bs s)
/-- that the words of an instruction's line can be written -/
def WOk (x : In) : Prop := ∀ o ∈ ((formOf x).getD fm0).os, o = 9 ∨ (0 ≤ getO o x ∧ getO o x < 18446744073709551616 ∧ gV o x = getO o x)
theorem most_lt (o : Nat) (c : Int) (h1 : c ≤ 256) : mostO o c < 18446744073709551616 := by
  unfold mostO
  split <;> omega
theorem OkI.wok {x : In} {c : Int} (hx : InR x) (hc0 : 0 ≤ c) (hc1 : c ≤ 256) (h : OkI c x) : WOk x := by
  obtain ⟨f, hf, hall, _⟩ := h
  have hwf := formOf_wf x
  rw [hf] at hwf
  intro o ho
  rw [hf] at ho
  have hin := hall o ho
  obtain ⟨h1, h9⟩ := hwf.2 o ho
  right
  have hm := most_lt o c hc1
  rcases gV_spec hx o h1 h9 c hc0 hc1 with ⟨_, h, _⟩ | ⟨h, _⟩
  · exact ⟨hin.1, Int.lt_of_le_of_lt hin.2 hm, h⟩
  · exact absurd hin h
theorem lens_le (l : List (List UInt8)) (m : Nat) (h : ∀ s ∈ l, s.length ≤ m) : Lib.lens l ≤ l.length * m := by
  induction l with
  | nil => simp [Lib.lens]
  | cons a l ih =>
    have h1 := h a (by simp)
    have h2 := ih fun s hs => h s (by simp [hs])
    simp only [Lib.lens, List.map_cons, List.sum_cons, List.length_cons] at h2 ⊢
    rw [Nat.succ_mul]
    omega
theorem fms_nm : ∀ f ∈ fms, f.nm.length ≤ 5 := by decide
theorem formOf_nm (x : In) : ((formOf x).getD fm0).nm.length ≤ 5 := by
  cases h : formOf x with
  | none => decide
  | some f => exact fms_nm f (List.mem_of_find?_eq_some h)
theorem wordO_len (x : In) (lb : List UInt8) (hlb : lb.length ≤ 1000) (o : Nat) : (wordO x lb o).length ≤ 1000 := by
  have h := digF_len 20 (getO o x).toNat
  unfold wordO
  split
  · exact hlb
  · unfold digs
    split
    · rw [List.length_cons]; omega
    · omega
theorem lineW_len (f : Fm) (x : In) (lb : List UInt8) (hf : WfF f) (hn : f.nm.length ≤ 5) (hlb : lb.length ≤ 1000) : (Lib.join (lineW f x lb) [32]).length ≤ 4100 := by
  unfold lineW
  rw [Lib.join_length]
  have := lens_le (f.nm :: f.os.map (wordO x lb)) 1000 (fun s hs => by
    rw [List.mem_cons, List.mem_map] at hs
    rcases hs with rfl | ⟨o, _, rfl⟩
    · omega
    · exact wordO_len x lb hlb o)
  have h3 := hf.1
  simp only [List.length_cons, List.length_map, List.length_nil] at this ⊢
  omega
theorem lineI_len (x : In) (lb : List UInt8) (hlb : lb.length ≤ 1000) : (lineI x lb).length ≤ 4100 := lineW_len _ x lb (formOf_wf x) (formOf_nm x) hlb
theorem ORow.grown {w w' : World} {b off : Nat} {os : List Nat} {r : Option Nat} (h : ORow w (some ⟨b, off, none⟩) os) (hg : w.grownBy w' r) (hne : r ≠ some b) (hsz : w.heap.size ≤ w'.heap.size) : ORow w' (some ⟨b, off, none⟩) os :=
  ⟨h.in_, fun hl => by
    obtain ⟨b', off', e, hlt, hc⟩ := h.at_ hl
    simp only [Option.some.injEq, Addr.mk.injEq, and_true] at e
    obtain ⟨rfl, rfl⟩ := e
    exact ⟨b, off, rfl, by omega, fun i hi => (World.cell?_of_block (hg.block b hlt (fun e => hne e.symm))).trans (hc i hi)⟩⟩
section
variable {w : World}
theorem join_any {A : Option Addr} {cap : Nat} {ss : List (List UInt8)} (B : Nat) (h0 : 0 < ss.length) (hl : ss.length ≤ 100) (hlen : (Lib.join ss [32]).length ≤ 4100) (how : w.ownsRow B 9 1 (.slice A ss.length cap) ss.length (ss.map sv)) :
    Calls Tryz.prog 58 #[.slice A ss.length cap, .string ⟨#[32]⟩] w fun e w' => e = .returned (.string (bs (Lib.join ss [32]))) ∧ Below w.heap.size w w' := by
  obtain ⟨_, ⟨h1, h2⟩ | ⟨g, cap', cur, e, hB, hg, hc, _, hs, ht⟩⟩ := id how
  · omega
  · injection e with e1 e2 e3
    subst e1 e3
    have hlt : g < w.heap.size := heap_lt hg
    have hm : ((ss.map bs).map fun b => b.data.toList) = ss := by
      rw [List.map_map]
      conv => rhs; rw [← List.map_id ss]
      apply List.map_congr_left
      intro s _
      exact bs_data s
    have key := L_strings_Join g 0 cap (ss.map bs) ⟨#[32]⟩ w (fun j x hj => by
      rw [List.getElem?_map, Option.map_eq_some_iff] at hj
      obtain ⟨s, hs', rfl⟩ := hj
      have hjl : j < ss.length := (List.getElem?_eq_some_iff.1 hs').1
      rw [Nat.zero_add, how.cellAt j (by omega), List.getElem?_map, hs']
      rfl) hlt (by simp; omega) (by simp; exact hc) (by rw [hm]; show (Lib.join ss [32]).length ≤ _; omega)
    rw [hm, List.length_map] at key
    exact key
set_option maxRecDepth 100000 in
set_option maxHeartbeats 4000000 in
theorem line_any (x : In) (lb : List UInt8) (hlb : lb.length ≤ 1000) (hW : WOk x) (hL : Lw w) : Calls Tryz.prog 31 #[.agg #[.int .u8 x.kd, .int .u8 x.op, .int .i64 x.oa, .int .i64 x.ob, .int .i64 x.fd, .int .i64 x.n, .int .u64 x.m, .int .u64 x.w, .int .i64 x.a, .int .i64 x.b, .int .i64 x.to], .string (bs lb)] w fun e w' => e = .returned (.string (bs (lineI x lb))) ∧ Below w.heap.size w w' := by
  have hX := Lib.hid (In11.new w x 37)
  have hlen := lineI_len x lb hlb
  unfold lineI at hlen ⊢
  obtain ⟨b, f, hb, hf, hF⟩ : ∃ (b : Bool) (f : Fm), (formOf x).isSome = b ∧ (formOf x).getD fm0 = f ∧ Hid (∀ W, Lw W → Calls Tryz.prog 50 #[.agg #[.int .u8 x.kd, .int .u8 x.op, .int .i64 x.oa, .int .i64 x.ob, .int .i64 x.fd, .int .i64 x.n, .int .u64 x.m, .int .u64 x.w, .int .i64 x.a, .int .i64 x.b, .int .i64 x.to]] W fun e w' => e = .returned (.tuple #[.agg #[.string (bs f.nm), .int .u8 f.kd, .int .u8 f.op, .int .i64 (opn f 0), .int .i64 (opn f 1), .int .i64 (opn f 2)], .bool b]) ∧ Below W.heap.size W w') := ⟨_, _, rfl, rfl, Lib.hid fun W hL => formOf_any (w := W) x hL⟩
  have hwf := formOf_wf x
  rw [hf] at hwf hlen ⊢
  unfold WOk at hW
  rw [hf] at hW
  have HLI := Lib.hid fun (w : World) => list_agg (w := w) f hwf
  have HWO := Lib.hid fun (W : World) k (hk : k < f.os.length) hL => word_any (w := W) (f.os.getD k 0) (hwf.2 _ (by rw [List.getD_eq_getElem?_getD, List.getElem?_eq_getElem hk]; exact List.getElem_mem hk)).1 (hwf.2 _ (by rw [List.getD_eq_getElem?_getD, List.getElem?_eq_getElem hk]; exact List.getElem_mem hk)).2 x (hW _ (by rw [List.getD_eq_getElem?_getD, List.getElem?_eq_getElem hk]; exact List.getElem_mem hk)) lb hL
  have hl3 := hwf.1
  have HJ := Lib.hid fun (W : World) (A : Option Addr) (cap : Nat) (B : Nat) h => join_any (w := W) (A := A) (cap := cap) (ss := lineW f x lb) B (by simp [lineW]) (by simp [lineW]; omega) hlen h
  have HT := Lib.hid fun k (hk : k < f.os.length) => (show (f.nm :: (f.os.take k).map (wordO x lb)).map sv ++ [.string (bs (wordO x lb (f.os.getD k 0)))] = (f.nm :: (f.os.take (k + 1)).map (wordO x lb)).map sv from by
    rw [List.take_add_one, List.getElem?_eq_getElem hk]
    simp only [Option.toList_some, List.map_append, List.map_cons, List.map_nil, List.cons_append, List.getD_eq_getElem?_getD, List.getElem?_eq_getElem hk, Option.getD_some, sv])
  have HE : Hid (f.nm :: (f.os.take f.os.length).map (wordO x lb) = lineW f x lb ∧ (lineW f x lb).length = f.os.length + 1) := Lib.hid ⟨by rw [List.take_length]; rfl, by simp [lineW]⟩
  clear hwf hb hf hW hlen
  go_enter Tryz.func31, Tryz.ntmps31
  go_wp2_with fail
  go_at_call 50
  refine (hF.out _ (hL.later (by repeat (first | exact Below.refl _ _ | assumption | (refine below_drewN ?_ _) | (refine Below.drew ?_) | (refine Below.alloc ?_ (by first | omega | (simp; omega) | simp) _) | (refine Below.setCell ?_ (by first | omega | (simp; omega) | simp) _) | (refine below_trans ?_ (by assumption) (by first | omega | (simp; omega) | simp)))))).mono ?_
  rintro e w1 ⟨rfl, hb_w1⟩
  obtain ⟨hc_w1, hf_w1⟩ := bcell hb_w1; have hz_w1_w_0 : w.heap.size < w1.heap.size := (by have hzz := hb_w1.size; (try simp only [World.size_alloc, World.size_setCell, World.size_drew, World.heap_drewN] at hzz); omega); have hs_w1 := hb_w1.size; (try simp only [World.size_alloc, World.size_setCell, World.size_drew, World.heap_drewN] at hs_w1)
  have hX1 := Lib.hid (hX.out.later hb_w1)
  have g1 := hX1.out.lt
  go_wp2_with fail
  go_at_call 52
  refine (HLI.out _).mono ?_
  rintro e w2 ⟨A, cap, rfl, ⟨hor, hab0⟩, hb_w2⟩
  obtain ⟨hc_w2, hf_w2⟩ := bcell hb_w2; have hz_w2_w1_0 : w1.heap.size < w2.heap.size := (by have hzz := hb_w2.size; (try simp only [World.size_alloc, World.size_setCell, World.size_drew, World.heap_drewN] at hzz); omega); have hz_w2_w1_1 : w1.heap.size + 1 < w2.heap.size := (by have hzz := hb_w2.size; (try simp only [World.size_alloc, World.size_setCell, World.size_drew, World.heap_drewN] at hzz); omega); have hs_w2 := hb_w2.size; (try simp only [World.size_alloc, World.size_setCell, World.size_drew, World.heap_drewN] at hs_w2)
  have b2 : Below w.heap.size w w2 := (by repeat (first | exact Below.refl _ _ | assumption | (refine below_drewN ?_ _) | (refine Below.drew ?_) | (refine Below.alloc ?_ (by first | omega | (simp; omega) | simp) _) | (refine Below.setCell ?_ (by first | omega | (simp; omega) | simp) _) | (refine below_trans ?_ (by assumption) (by first | omega | (simp; omega) | simp))))
  have hX2 : Hid (In11 w2 w.heap.size 0 x) := Lib.hid (hX1.out.later (show Below w1.heap.size w1 w2 from below_trans (Below.alloc (Below.alloc (Below.refl _ _) (Nat.le_refl _) _) (by simp) _) hb_w2 (by simp; omega)))
  have hor2 := Lib.hid hor
  have oW : Hid (w2.ownsRow (w1.heap.size + 1) 9 1 (.slice (some ⟨w1.heap.size + 1, 0, none⟩) 1 1) 1 ([f.nm].map sv)) := Lib.hid (owns_laterS (by
    have := World.ownsRow_lit (base := w1.heap.size + 1) (e := 9) (size := 1) (w1.alloc (.cells #[.string (bs f.nm), .int .u8 f.kd, .int .u8 f.op, .int .i64 (opn f 0), .int .i64 (opn f 1), .int .i64 (opn f 2)] 99)) #[.string (bs f.nm)] 1 (by simp) (by unfold maxLen; omega) rfl
    simp only [World.size_alloc] at this
    exact this) hb_w2)
  have hab1 : Hid (∀ a, A = some a → w1.heap.size + 1 < a.block) := Lib.hid fun a ha => by have := hab0 a ha; simp only [World.size_alloc] at this; omega
  have hGx : w.heap.size < w1.heap.size + 1 := by omega
  have hG2 : w1.heap.size + 1 < w2.heap.size := oW.out.lt _ rfl |>.2
  clear hor hab0 hX hX1 hc_w1 hf_w1 hc_w2 hf_w2
  generalize w1.heap.size + 1 = G at *
  have hRA0 : Hid (∀ r, (some ⟨G, 0, none⟩ : Option Addr) = some r → ∀ a, A = some a → r.block ≠ a.block) := Lib.hid fun r hr a ha => by
    injection hr with hr
    subst hr
    have := hab1.out a ha
    show G ≠ a.block
    omega
  go_wp2_with fail
  go_loopw [7, 21] (fun ll ii wr => ∃ (k : Nat) (R : Option Addr) (rc : Nat), ii = .int .i64 (k : Nat) ∧ k ≤ f.os.length ∧ ll = .slice R (k + 1) rc ∧ Hid (wr.ownsRow G 9 1 (.slice R (k + 1) rc) (k + 1) ((f.nm :: (f.os.take k).map (wordO x lb)).map sv)) ∧ Hid (∀ r, R = some r → ∀ a, A = some a → r.block ≠ a.block) ∧ G < wr.heap.size ∧ Hid (In11 wr w.heap.size 0 x) ∧ Hid (ORow wr A f.os) ∧ Below w.heap.size w wr) (fun ll ii _ => f.os.length - (intOf ii).toNat)
  case atStart => exact ⟨0, some ⟨G, 0, none⟩, 1, rfl, Nat.zero_le _, rfl, oW, hRA0, hG2, hX2, hor2, b2⟩
  case round =>
    clear oW hX2 hor2
    obtain ⟨k, R, rc, rfl, hk, rfl, OW, HRA, hGr, HX, HO, hb_wr⟩ := hrel
    have hsr := hb_wr.size
    have hgr := HX.out.lt
    by_cases hlt : k < f.os.length
    · obtain ⟨ab, aoff, rfl, hab, hac⟩ := HO.out.at_ (by rw [opI_len]; omega)
      have hak := hac k (by rw [opI_len]; exact hlt)
      rw [opI_get f.os k hlt] at hak
      have hk0 : (0 : Int) ≤ (k : Int) := by omega
      have hk1 : (k : Int) < (f.os.length : Int) := by omega
      have HTK := Lib.hid (HT.out k hlt)
      have HWK := Lib.hid fun (W : World) hL => HWO.out W k hlt hL
      clear hac
      generalize f.os.getD k 0 = o at *
      obtain ⟨c0, c1, c2, c3, c4, c5, c6, c7, c8, c9, c10⟩ := id HX.out
      simp only [Nat.zero_add] at c0 c1 c2 c3 c4 c5 c6 c7 c8 c9 c10
      go_wp2_with fail
      go_at_call 57
      refine (HWK.out _ (hL.later (by repeat (first | exact Below.refl _ _ | assumption | (refine below_drewN ?_ _) | (refine Below.drew ?_) | (refine Below.alloc ?_ (by first | omega | (simp; omega) | simp) _) | (refine Below.setCell ?_ (by first | omega | (simp; omega) | simp) _) | (refine below_trans ?_ (by assumption) (by first | omega | (simp; omega) | simp)))))).mono ?_
      rintro e w4 ⟨rfl, hb_w4⟩
      obtain ⟨hc_w4, hf_w4⟩ := bcell hb_w4; have hs_w4 := hb_w4.size; (try simp only [World.size_alloc, World.size_setCell, World.size_drew, World.heap_drewN] at hs_w4)
      have OW4 := Lib.hid (owns_laterS OW.out hb_w4)
      have hX4 := Lib.hid (HX.out.later hb_w4)
      have hO4 := Lib.hid (HO.out.later hb_w4)
      have b4 : Below w.heap.size w w4 := (by repeat (first | exact Below.refl _ _ | assumption | (refine below_drewN ?_ _) | (refine Below.drew ?_) | (refine Below.alloc ?_ (by first | omega | (simp; omega) | simp) _) | (refine Below.setCell ?_ (by first | omega | (simp; omega) | simp) _) | (refine below_trans ?_ (by assumption) (by first | omega | (simp; omega) | simp))))
      clear OW HX HO
      go_wp2_with (at_builtin; refine wpList_appendS ?_ (.tmp 25) (.tmp 30) ?_ G R rc (k + 1) ((f.nm :: (f.os.take k).map (wordO x lb)).map sv) ?_ (owns_laterS OW4.out (show Below w4.heap.size w4 _ from (by repeat (first | exact Below.refl _ _ | assumption | (refine below_drewN ?_ _) | (refine Below.drew ?_) | (refine Below.alloc ?_ (by first | omega | (simp; omega) | simp) _) | (refine Below.setCell ?_ (by first | omega | (simp; omega) | simp) _) | (refine below_trans ?_ (by assumption) (by first | omega | (simp; omega) | simp)))))) (some ⟨w4.heap.size, 0, none⟩) 1 1 [.string (bs (wordO x lb o))] ?_ rfl (fun _ => ⟨w4.heap.size, 0, rfl, fl_lies w4 [.string (bs (wordO x lb o))] _⟩) (by intro u hu; simp at hu; subst hu; rfl) (by omega) (by simp; omega) ?_; rfl; rfl; rfl; rfl; intro A7 cap7 w7 hown7 hg7 hb_w7 hat7; have hs7 := hb_w7.size)
      rw [HTK.out] at hown7
      have OW7 := Lib.hid hown7
      have hgs : w4.heap.size ≤ w7.heap.size := by have := hb_w7.size; simp only [World.size_alloc] at this; omega
      have HX7 : Hid (In11 w7 w.heap.size 0 x) := Lib.hid ((hX4.out.later (show Below w4.heap.size w4 (w4.alloc (.cells #[.string (bs (wordO x lb o))] 9)) from Below.alloc (Below.refl _ _) (Nat.le_refl _) _)).below hb_w7 hGx)
      have HO7 : Hid (ORow w7 (some ⟨ab, aoff, none⟩) f.os) := Lib.hid ((hO4.out.later (show Below w4.heap.size w4 (w4.alloc (.cells #[.string (bs (wordO x lb o))] 9)) from Below.alloc (Below.refl _ _) (Nat.le_refl _) _)).grown hg7 (fun e => by
        cases R with
        | none => simp at e
        | some r =>
          simp only [Option.map_some, Option.some.injEq] at e
          exact HRA.out r rfl _ rfl e) (by simp only [World.size_alloc]; have := hb_w7.size; simp only [World.size_alloc] at this; omega))
      have hab4 : ab < w4.heap.size + 1 := by
        have := hO4.out.at_ (by rw [opI_len]; omega)
        obtain ⟨b', off', e, hlt', _⟩ := this
        simp only [Option.some.injEq, Addr.mk.injEq, and_true] at e
        omega
      have HRA7 : Hid (∀ r, A7 = some r → ∀ a, (some ⟨ab, aoff, none⟩ : Option Addr) = some a → r.block ≠ a.block) := Lib.hid fun r hr a ha => by
        rcases hat7 with h | h
        · exact HRA.out r (by rw [← h]; exact hr) a ha
        · rw [h] at hr
          injection hr with hr
          injection ha with ha
          subst hr ha
          simp only [World.size_alloc]
          omega
      have b7 : Below w.heap.size w w7 := below_trans (Below.alloc b4 (by have := b4.size; omega) _) hb_w7 (by omega)
      have hg77 : G < w7.heap.size := by omega
      clear hg7 hb_w7 hat7
      go_roundw
      case rel => exact ⟨k + 1, A7, cap7, by go_num, by omega, rfl, OW7, HRA7, hg77, HX7, HO7, b7⟩
      case measure => simp [intOf]; omega
    · obtain rfl : k = f.os.length := by omega
      have OW2 := OW.out
      rw [HE.out.1, ← HE.out.2] at OW2
      have HL1 := Lib.hid HE.out.2
      have OW3 := Lib.hid OW2
      clear OW2 OW HE HT
      have HJ2 := HJ.out wr R rc G OW3.out
      rw [HL1.out] at HJ2
      have HJ3 := Lib.hid HJ2
      clear HJ2
      go_wp2_with fail
      go_at_call 58
      refine (HJ3.out).mono ?_
      rintro e w5 ⟨rfl, hb_w5⟩
      obtain ⟨hc_w5, hf_w5⟩ := bcell hb_w5; have hs_w5 := hb_w5.size; (try simp only [World.size_alloc, World.size_setCell, World.size_drew, World.heap_drewN] at hs_w5)
      go_wp2
      go_ret
      exact ⟨rfl, (by repeat (first | exact Below.refl _ _ | assumption | (refine below_drewN ?_ _) | (refine Below.drew ?_) | (refine Below.alloc ?_ (by first | omega | (simp; omega) | simp) _) | (refine Below.setCell ?_ (by first | omega | (simp; omega) | simp) _) | (refine below_trans ?_ (by assumption) (by first | omega | (simp; omega) | simp))))⟩
end
end Go.Proofs.YtggaijdbaplfiaaGreatDoor
