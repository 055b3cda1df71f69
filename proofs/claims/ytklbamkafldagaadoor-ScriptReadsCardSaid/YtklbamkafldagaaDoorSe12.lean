/- Contracts of package script: names.parse. -/
import Derived.Test.YtklbamkafldagaaDoorSe11
namespace Go.Proofs.YtklbamkafldagaaDoor
open Go.RowKit
set_option linter.unusedVariables false
set_option linter.unusedSimpArgs false

theorem cut_le (s sep : List UInt8) : (Lib.cut s sep).1.length ≤ s.length ∧ (Lib.cut s sep).2.1.length ≤ s.length := by
  unfold Lib.cut
  split
  · simp only [List.length_take, List.length_drop]
    omega
  · simp
theorem Ev5.set5 {W : World} {g : Nat} {s0 : Ev} (s : Ev) (h : Ev5 W g 0 s0) : Ev5 (((((W.setCell ⟨g, 0, none⟩ (.bool s.th)).setCell ⟨g, 1, none⟩ (.int .i64 s.who)).setCell ⟨g, 2, none⟩ (.int .u8 s.k)).setCell ⟨g, 3, none⟩ (.int .i64 s.tw)).setCell ⟨g, 4, none⟩ (.int .i64 s.n)) g 0 s := by
  obtain ⟨h0, h1, h2, h3, h4⟩ := h
  simp only [Nat.zero_add] at h0 h1 h2 h3 h4
  constructor <;> simp [go_sem, h0, h1, h2, h3, h4]
theorem below_set5 {B g : Nat} {W0 W : World} (s : Ev) (hb : Below B W0 W) (hg : B ≤ g) : Below B W0 (((((W.setCell ⟨g, 0, none⟩ (.bool s.th)).setCell ⟨g, 1, none⟩ (.int .i64 s.who)).setCell ⟨g, 2, none⟩ (.int .u8 s.k)).setCell ⟨g, 3, none⟩ (.int .i64 s.tw)).setCell ⟨g, 4, none⟩ (.int .i64 s.n)) := by
  iterate 5 (refine Below.setCell ?_ hg _)
  exact hb
def ParR (w : World) (s : ByteArray) (r : Ending) (w' : World) : Prop := ∃ e ok, r = .returned (.tuple #[evv e, .bool ok]) ∧ (read1 s.data.toList = if ok then some e else none) ∧ Below w.heap.size w w'
section
variable {w : World}
theorem scut_any (s : ByteArray) (hs : s.size ≤ 65536) (hL : Lw w) : Calls Tryd.prog 38 #[.string s, .string ⟨#[32, 42, 32]⟩] w fun e w' => e = .returned (.tuple #[.string (bs (Lib.cut s.data.toList star).1), .string (bs (Lib.cut s.data.toList star).2.1), .bool (Lib.cut s.data.toList star).2.2]) ∧ Below w.heap.size w w' := by
  obtain ⟨m, hm⟩ := hL.mx
  refine (L_strings_Cut s ⟨#[32, 42, 32]⟩ m w (by omega) hm).mono ?_
  rintro e w' ⟨rfl, n, rfl⟩
  exact ⟨rfl, below_drewN (Below.refl _ _) _⟩
theorem lookN {W : World} {M : Nat} (h : NamesM W M sgl) (s : List UInt8) (hs : s.length ≤ 65536) (hn : look s = none) :
    (Instr.lookup 45 (.map (some M)) (.string (bs s)) true).run Tryd.prog W = .ok (.tuple #[.agg #[.bool false, .int .i64 0, .int .u8 0, .int .i64 0, .int .i64 0], .bool false]) W := by
  have := h.look (s := bs s) (by rw [bs_size]; unfold maxLen; omega)
  rw [bs_data] at this
  unfold Go.Proofs.YtklbamkafldagaaDoor.look at hn
  rw [hn] at this
  exact this
theorem lookS {W : World} {M : Nat} (h : NamesM W M sgl) (s : List UInt8) (hs : s.length ≤ 65536) (a : Bool) (b c d n : Int) (hn : look s = some ⟨a, b, c, d, n⟩) :
    (Instr.lookup 45 (.map (some M)) (.string (bs s)) true).run Tryd.prog W = .ok (.tuple #[.agg #[.bool a, .int .i64 b, .int .u8 c, .int .i64 d, .int .i64 n], .bool true]) W := by
  have := h.look (s := bs s) (by rw [bs_size]; unfold maxLen; omega)
  rw [bs_data] at this
  unfold Go.Proofs.YtklbamkafldagaaDoor.look at hn
  rw [hn] at this
  exact this
set_option maxHeartbeats 4000000 in
theorem parse_any (M : Nat) (s : ByteArray) (hs : s.size ≤ 65536) (hL : Lw w) (hM : NamesM w M sgl) : Calls Tryd.prog 24 #[.map (some M), .string s] w fun e w' => ParR w s e w' := by
  unfold ParR
  have hlen : s.data.toList.length = s.size := Array.length_toList
  obtain ⟨hc1, hc2⟩ := cut_le s.data.toList star
  have HC := Lib.hid fun (w : World) hL => scut_any (w := w) s hs hL
  have hR : read1 s.data.toList = (match look (Lib.cut s.data.toList star).1 with | none => none | some e => if (Lib.cut s.data.toList star).2.2 then (timesE (Lib.cut s.data.toList star).2.1).map (tms e) else some e) := rfl
  rw [hlen] at hc1 hc2
  clear hlen
  generalize (Lib.cut s.data.toList star).1 = c1 at *
  generalize (Lib.cut s.data.toList star).2.1 = c2 at *
  generalize (Lib.cut s.data.toList star).2.2 = c3 at *
  have HT := Lib.hid fun (w : World) hL => timesOf_any (w := w) (bs c2) (by rw [bs_size]; omega) hL
  cases hlk : look c1 with
  | none =>
    have HL := Lib.hid fun (W : World) (h : NamesM W M sgl) => lookN h c1 (by omega) hlk
    have HR : Hid (read1 s.data.toList = none) := Lib.hid (by rw [hR, hlk])
    clear hR hlk HT
    go_enter Tryd.func24, Tryd.ntmps24
    go_wp2_with fail
    go_at_call 38
    refine (HC.out _ (hL.later (by repeat (first | exact Below.refl _ _ | assumption | (refine below_drewN ?_ _) | (refine Below.drew ?_) | (refine Below.alloc ?_ (by first | omega | (simp; omega) | simp) _) | (refine Below.setCell ?_ (by first | omega | (simp; omega) | simp) _) | (refine below_trans ?_ (by assumption) (by first | omega | (simp; omega) | simp)))))).mono ?_
    rintro e w1 ⟨rfl, hb_w1⟩
    obtain ⟨hc_w1, hf_w1⟩ := bcell hb_w1; have hz_w1_w_0 : w.heap.size < w1.heap.size := (by have hzz := hb_w1.size; (try simp only [World.size_alloc, World.size_setCell, World.size_drew, World.heap_drewN] at hzz); omega); have hs_w1 := hb_w1.size; (try simp only [World.size_alloc, World.size_setCell, World.size_drew, World.heap_drewN] at hs_w1)
    have hl9 := HL.out w1 (hM.later (by repeat (first | exact Below.refl _ _ | assumption | (refine below_drewN ?_ _) | (refine Below.drew ?_) | (refine Below.alloc ?_ (by first | omega | (simp; omega) | simp) _) | (refine Below.setCell ?_ (by first | omega | (simp; omega) | simp) _) | (refine below_trans ?_ (by assumption) (by first | omega | (simp; omega) | simp)))))
    have b1 : Below w.heap.size w w1 := (by repeat (first | exact Below.refl _ _ | assumption | (refine below_drewN ?_ _) | (refine Below.drew ?_) | (refine Below.alloc ?_ (by first | omega | (simp; omega) | simp) _) | (refine Below.setCell ?_ (by first | omega | (simp; omega) | simp) _) | (refine below_trans ?_ (by assumption) (by first | omega | (simp; omega) | simp))))
    have e5 : Ev5 w1 w.heap.size 0 ev0 := (Ev5.new w ev0 41).later hb_w1
    obtain ⟨q0, q1, q2, q3, q4⟩ := id e5
    simp only [Nat.zero_add, ev0] at q0 q1 q2 q3 q4
    go_wp2
    refine bodyPost_ret (res_ev2 rfl rfl (s := ev0) ((e5.set5 ev0).later (Below.alloc (Below.refl _ _) (Nat.le_refl _) _))) rfl ⟨ev0, false, rfl, HR.out, Below.alloc (below_set5 ev0 b1 (Nat.le_refl _)) (by first | omega | (simp; omega) | simp) _⟩
  | some x =>
    obtain ⟨a, b, c, d, n⟩ := x
    have HL := Lib.hid fun (W : World) (h : NamesM W M sgl) => lookS h c1 (by omega) a b c d n hlk
    cases c3 with
    | false =>
      have HR : Hid (read1 s.data.toList = some ⟨a, b, c, d, n⟩) := Lib.hid (by rw [hR, hlk]; rfl)
      clear hR hlk HT
      go_enter Tryd.func24, Tryd.ntmps24
      go_wp2_with fail
      go_at_call 38
      refine (HC.out _ (hL.later (by repeat (first | exact Below.refl _ _ | assumption | (refine below_drewN ?_ _) | (refine Below.drew ?_) | (refine Below.alloc ?_ (by first | omega | (simp; omega) | simp) _) | (refine Below.setCell ?_ (by first | omega | (simp; omega) | simp) _) | (refine below_trans ?_ (by assumption) (by first | omega | (simp; omega) | simp)))))).mono ?_
      rintro e w1 ⟨rfl, hb_w1⟩
      obtain ⟨hc_w1, hf_w1⟩ := bcell hb_w1; have hz_w1_w_0 : w.heap.size < w1.heap.size := (by have hzz := hb_w1.size; (try simp only [World.size_alloc, World.size_setCell, World.size_drew, World.heap_drewN] at hzz); omega); have hs_w1 := hb_w1.size; (try simp only [World.size_alloc, World.size_setCell, World.size_drew, World.heap_drewN] at hs_w1)
      have hl9 := HL.out w1 (hM.later (by repeat (first | exact Below.refl _ _ | assumption | (refine below_drewN ?_ _) | (refine Below.drew ?_) | (refine Below.alloc ?_ (by first | omega | (simp; omega) | simp) _) | (refine Below.setCell ?_ (by first | omega | (simp; omega) | simp) _) | (refine below_trans ?_ (by assumption) (by first | omega | (simp; omega) | simp)))))
      have b1 : Below w.heap.size w w1 := (by repeat (first | exact Below.refl _ _ | assumption | (refine below_drewN ?_ _) | (refine Below.drew ?_) | (refine Below.alloc ?_ (by first | omega | (simp; omega) | simp) _) | (refine Below.setCell ?_ (by first | omega | (simp; omega) | simp) _) | (refine below_trans ?_ (by assumption) (by first | omega | (simp; omega) | simp))))
      have e5 : Ev5 w1 w.heap.size 0 ev0 := (Ev5.new w ev0 41).later hb_w1
      obtain ⟨q0, q1, q2, q3, q4⟩ := id e5
      simp only [Nat.zero_add, ev0] at q0 q1 q2 q3 q4
      go_wp2
      refine bodyPost_ret (res_ev2 rfl rfl (s := ⟨a, b, c, d, n⟩) ((e5.set5 ⟨a, b, c, d, n⟩).later (Below.alloc (Below.refl _ _) (Nat.le_refl _) _))) rfl ⟨⟨a, b, c, d, n⟩, true, rfl, HR.out, Below.alloc (below_set5 ⟨a, b, c, d, n⟩ b1 (Nat.le_refl _)) (by first | omega | (simp; omega) | simp) _⟩
    | true =>
      have HR : Hid (read1 s.data.toList = (timesE c2).map (tms ⟨a, b, c, d, n⟩)) := Lib.hid (by rw [hR, hlk]; rfl)
      clear hR hlk
      go_enter Tryd.func24, Tryd.ntmps24
      go_wp2_with fail
      go_at_call 38
      refine (HC.out _ (hL.later (by repeat (first | exact Below.refl _ _ | assumption | (refine below_drewN ?_ _) | (refine Below.drew ?_) | (refine Below.alloc ?_ (by first | omega | (simp; omega) | simp) _) | (refine Below.setCell ?_ (by first | omega | (simp; omega) | simp) _) | (refine below_trans ?_ (by assumption) (by first | omega | (simp; omega) | simp)))))).mono ?_
      rintro e w1 ⟨rfl, hb_w1⟩
      obtain ⟨hc_w1, hf_w1⟩ := bcell hb_w1; have hz_w1_w_0 : w.heap.size < w1.heap.size := (by have hzz := hb_w1.size; (try simp only [World.size_alloc, World.size_setCell, World.size_drew, World.heap_drewN] at hzz); omega); have hs_w1 := hb_w1.size; (try simp only [World.size_alloc, World.size_setCell, World.size_drew, World.heap_drewN] at hs_w1)
      have hl9 := HL.out w1 (hM.later (by repeat (first | exact Below.refl _ _ | assumption | (refine below_drewN ?_ _) | (refine Below.drew ?_) | (refine Below.alloc ?_ (by first | omega | (simp; omega) | simp) _) | (refine Below.setCell ?_ (by first | omega | (simp; omega) | simp) _) | (refine below_trans ?_ (by assumption) (by first | omega | (simp; omega) | simp)))))
      have b1 : Below w.heap.size w w1 := (by repeat (first | exact Below.refl _ _ | assumption | (refine below_drewN ?_ _) | (refine Below.drew ?_) | (refine Below.alloc ?_ (by first | omega | (simp; omega) | simp) _) | (refine Below.setCell ?_ (by first | omega | (simp; omega) | simp) _) | (refine below_trans ?_ (by assumption) (by first | omega | (simp; omega) | simp))))
      have e5 : Ev5 w1 w.heap.size 0 ev0 := (Ev5.new w ev0 41).later hb_w1
      obtain ⟨q0, q1, q2, q3, q4⟩ := id e5
      simp only [Nat.zero_add, ev0] at q0 q1 q2 q3 q4
      go_wp2_with fail
      go_at_call 39
      refine (HT.out _ (hL.later (by repeat (first | exact Below.refl _ _ | assumption | (refine below_drewN ?_ _) | (refine Below.drew ?_) | (refine Below.alloc ?_ (by first | omega | (simp; omega) | simp) _) | (refine Below.setCell ?_ (by first | omega | (simp; omega) | simp) _) | (refine below_trans ?_ (by assumption) (by first | omega | (simp; omega) | simp)))))).mono ?_
      rintro e w2 ⟨m, ok, rfl, hm9, hb_w2⟩
      obtain ⟨hc_w2, hf_w2⟩ := bcell hb_w2; have hz_w2_w1_0 : w1.heap.size < w2.heap.size := (by have hzz := hb_w2.size; (try simp only [World.size_alloc, World.size_setCell, World.size_drew, World.heap_drewN] at hzz); omega); have hs_w2 := hb_w2.size; (try simp only [World.size_alloc, World.size_setCell, World.size_drew, World.heap_drewN] at hs_w2)
      have f5 : Ev5 w2 w1.heap.size 0 ⟨a, b, c, d, n⟩ := (Ev5.new w1 ⟨a, b, c, d, n⟩ 41).later hb_w2
      have e6 : Ev5 w2 w.heap.size 0 ev0 := (e5.later (Below.alloc (Below.refl _ _) (Nat.le_refl _) _)).later hb_w2
      have b2 : Below w.heap.size w w2 := (by repeat (first | exact Below.refl _ _ | assumption | (refine below_drewN ?_ _) | (refine Below.drew ?_) | (refine Below.alloc ?_ (by first | omega | (simp; omega) | simp) _) | (refine Below.setCell ?_ (by first | omega | (simp; omega) | simp) _) | (refine below_trans ?_ (by assumption) (by first | omega | (simp; omega) | simp))))
      obtain ⟨p0, p1, p2, p3, p4⟩ := id f5
      obtain ⟨r0, r1, r2, r3, r4⟩ := id e6
      simp only [Nat.zero_add, ev0] at p0 p1 p2 p3 p4 r0 r1 r2 r3 r4
      clear q0 q1 q2 q3 q4 hb_w1 hb_w2
      have hne : w1.heap.size ≠ w.heap.size := by omega
      have hR2 : Hid (read1 s.data.toList = if ok then some ⟨a, b, c, d, m⟩ else none) := Lib.hid (by
        rw [HR.out]
        rw [bs_data] at hm9
        rw [hm9]
        cases ok <;> rfl)
      clear hm9
      go_wp2_with fail
      refine bodyPost_ret (res_ev2 rfl rfl (s := ⟨a, b, c, d, m⟩) (Ev5.set5 (s0 := ev0) ⟨a, b, c, d, m⟩ ⟨?_, ?_, ?_, ?_, ?_⟩)) rfl ⟨⟨a, b, c, d, m⟩, ok, rfl, hR2.out, below_set5 ⟨a, b, c, d, m⟩ (Below.setCell b2 (show w.heap.size ≤ w1.heap.size by omega) _) (Nat.le_refl _)⟩
      all_goals simp [go_sem, ev0, hne, hne.symm, r0, r1, r2, r3, r4]
end
end Go.Proofs.YtklbamkafldagaaDoor
