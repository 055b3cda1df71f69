/- Contracts of package script: Print. -/
import Derived.Test.YtklbamkafldagaaDoorSe14
namespace Go.Proofs.YtklbamkafldagaaDoor
open Go.RowKit
set_option linter.unusedVariables false
set_option linter.unusedSimpArgs false

theorem printL_snoc (l : List Ev) (e : Ev) : printL (l ++ [e]) = printL l ++ (lineE e ++ [10]) := by simp [printL]
theorem printL_len {l : List Ev} (h : OkA l) : (printL l).length ≤ 30 * l.length := by
  revert h
  refine snoc_rec (p := fun l => OkA l → (printL l).length ≤ 30 * l.length) (fun _ => by simp [printL]) (fun a x ih h => ?_) l
  have h1 := ih h.left
  have h2 := (okE_line h.last).2.2
  rw [printL_snoc]
  simp only [List.length_append, List.length_cons, List.length_nil]
  omega
theorem OkA.take {l : List Ev} (h : OkA l) (k : Nat) : OkA (l.take k) := fun e he => h e (List.mem_of_mem_take he)
def PrintR (w : World) (l : List Ev) (r : Ending) (w' : World) : Prop := ((OkL l ∧ r = .returned (.tuple #[.string (bs (printL l)), .int .i64 0])) ∨ (¬ OkL l ∧ r = .returned (.tuple #[.string (bs []), .int .i64 2]))) ∧ Below w.heap.size w w'
theorem builder_later {T e : TypeId} {B b : Nat} {p : Value} {bs : List Value} {w w' : World} (h : Lib.BuilderAtF T e B b p bs w) (hb : Below w.heap.size w w') : Lib.BuilderAtF T e B b p bs w' := by
  have hlt := h.lt
  obtain ⟨hB, v, hc, hown, hne⟩ := h
  refine ⟨hB, v, (hb.block b hlt).trans hc, ?_, hne⟩
  refine hown.kept (row := none) ⟨hb.os, hb.tape, hb.output, hb.size, fun k hk _ => hb.block k hk⟩ ?_
  cases hv : v.ownBlock
  · exact .inl rfl
  · exact .inr (by simp)
theorem isB_lt {B b : Nat} {l : List UInt8} {w : World} (h : IsB B b l w) : b < w.heap.size := by
  rcases h with h | h
  · exact h.lt
  · exact h.lt
theorem isB_later {B b : Nat} {l : List UInt8} {w w' : World} (h : IsB B b l w) (hb : Below w.heap.size w w') : IsB B b l w' := by
  rcases h with h | h
  · exact .inl (builder_later h hb)
  · exact .inr (builder_later h hb)
section
variable {w : World}
theorem line_agg (a : Bool) (b c d n : Int) (h : okE ⟨a, b, c, d, n⟩ = true) (hL : Lw w) : Calls Tryd.prog 27 #[.agg #[.bool a, .int .i64 b, .int .u8 c, .int .i64 d, .int .i64 n]] w fun r w' => r = .returned (.string (bs (lineE ⟨a, b, c, d, n⟩))) ∧ Below w.heap.size w w' := line_any ⟨a, b, c, d, n⟩ h hL
theorem isB_new (W : World) (B : Nat) (hB : B ≤ W.heap.size) : IsB B W.heap.size [] (W.alloc (.cells #[.pointer none, .slice none 0 0] 54)) :=
  .inl ⟨hB, .slice none 0 0, heap_alloc_new _ _, ⟨rfl, .inl ⟨rfl, rfl⟩⟩, by simp [Value.ownBlock]⟩
set_option maxRecDepth 100000 in
set_option maxHeartbeats 4000000 in
theorem print_any {A : Option Addr} {l : List Ev} (cap : Nat) (hr : ERow w w.heap.size A l) (hl : l.length ≤ 17592186044416) (hL : Lw w) :
    Calls Tryd.prog 12 #[.slice A l.length cap] w fun e w' => PrintR w l e w' := by
  unfold PrintR
  by_cases hok : OkL l
  · have HC := Lib.hid fun (w : World) hr => check_any (w := w) (A := A) (l := l) cap hr hl 0 (.inl ⟨hok, rfl⟩)
    have hA : OkA l := hok.2
    have HPL := Lib.hid fun k => printL_len (hA.take k)
    have HE := Lib.hid fun k (hk : k < l.length) => hA _ (nthE_mem l k hk)
    have h4096 := hok.1
    have HOK := Lib.hid hok
    clear hok hA
    go_enter Tryd.func12, Tryd.ntmps12
    go_wp2_with fail
    go_at_call 20
    refine (HC.out _ (hr.later (by repeat (first | exact Below.refl _ _ | assumption | (refine below_drewN ?_ _) | (refine Below.drew ?_) | (refine Below.alloc ?_ (by first | omega | (simp; omega) | simp) _) | (refine Below.setCell ?_ (by first | omega | (simp; omega) | simp) _) | (refine below_trans ?_ (by assumption) (by first | omega | (simp; omega) | simp)))))).mono ?_
    rintro e w1 ⟨rfl, hb_w1⟩
    obtain ⟨hc_w1, hf_w1⟩ := bcell hb_w1; have hs_w1 := hb_w1.size; (try simp only [World.size_alloc, World.size_setCell, World.size_drew, World.heap_drewN] at hs_w1)
    have hL1 := hL.later hb_w1
    have hr1 := hr.later hb_w1
    have iB := isB_new w1 w1.heap.size (Nat.le_refl _)
    go_wp2_with fail
    go_loopw [15] (fun ii wr => ∃ k : Nat, ii = .int .i64 (k : Nat) ∧ k ≤ l.length ∧ IsB w1.heap.size w1.heap.size (printL (l.take k)) wr ∧ w1.heap.size < wr.heap.size ∧ Below w1.heap.size w1 wr) (fun ii _ => l.length - (intOf ii).toNat)
    case atStart => exact ⟨0, rfl, Nat.zero_le _, by simpa [printL] using iB, by simp, (by repeat (first | exact Below.refl _ _ | assumption | (refine below_drewN ?_ _) | (refine Below.drew ?_) | (refine Below.alloc ?_ (by first | omega | (simp; omega) | simp) _) | (refine Below.setCell ?_ (by first | omega | (simp; omega) | simp) _) | (refine below_trans ?_ (by assumption) (by first | omega | (simp; omega) | simp))))⟩
    case round =>
      clear iB
      obtain ⟨k, rfl, hk, iB, hsz, hb_wr⟩ := hrel
      have IB := Lib.hid iB
      clear iB
      by_cases hlt : k < l.length
      · obtain ⟨b, off, rfl, hbb, hc⟩ := (hr1.later hb_wr).at_ (by omega)
        have c5 := hc k hlt
        clear hc
        have he := HE.out k hlt
        have hln := (okE_line he).2.2
        have HPK := Lib.hid (printL_snoc (l.take k) (nthE l k))
        have hpl := HPL.out k
        rw [← take_nthE l k hlt] at HPK
        have hk0 : (0 : Int) ≤ (k : Int) := by omega
        have hk1 : (k : Int) < (l.length : Int) := by omega
        have hLr := hL1.later hb_wr
        have htk : (l.take k).length ≤ 4096 := by rw [List.length_take]; omega
        generalize nthE l k = d at *
        obtain ⟨ea, eb, ec, ed, en⟩ := d
        obtain ⟨c0, c1, c2, c3, c4⟩ := c5
        simp only at c0 c1 c2 c3 c4
        have HLN := Lib.hid fun (w : World) hL => line_agg (w := w) ea eb ec ed en he hL
        clear he
        generalize lineE ⟨ea, eb, ec, ed, en⟩ = LN at *
        have z1 : ¬ (9223372036854775807 < (bs LN).size + 1) := by rw [bs_size]; omega
        have HPK2 : Hid (printL (l.take k) ++ (bs LN ++ ⟨#[10]⟩ : ByteArray).data.toList = printL (l.take (k + 1))) := Lib.hid (by
          rw [HPK.out, show (⟨#[10]⟩ : ByteArray) = bs [10] from rfl, bs_append, bs_data])
        have hsz3 : (bs LN ++ ⟨#[10]⟩ : ByteArray).size ≤ 30 := by
          rw [show (⟨#[10]⟩ : ByteArray) = bs [10] from rfl, bs_append, bs_size]
          simp; omega
        have hlen3 : (printL (l.take k)).length + (bs LN ++ ⟨#[10]⟩ : ByteArray).size ≤ 140737488355328 := by omega
        have HL3 := Lib.hid hlen3
        clear hlen3 hsz3 hpl hln htk HPK
        go_wp2_with fail
        go_at_call 27
        refine (HLN.out _ (hLr.later (by repeat (first | exact Below.refl _ _ | assumption | (refine below_drewN ?_ _) | (refine Below.drew ?_) | (refine Below.alloc ?_ (by first | omega | (simp; omega) | simp) _) | (refine Below.setCell ?_ (by first | omega | (simp; omega) | simp) _) | (refine below_trans ?_ (by assumption) (by first | omega | (simp; omega) | simp)))))).mono ?_
        rintro e w2 ⟨rfl, hb_w2⟩
        obtain ⟨hc_w2, hf_w2⟩ := bcell hb_w2; have hz_w2_wr_0 : wr.heap.size < w2.heap.size := (by have hzz := hb_w2.size; (try simp only [World.size_alloc, World.size_setCell, World.size_drew, World.heap_drewN] at hzz); omega); have hs_w2 := hb_w2.size; (try simp only [World.size_alloc, World.size_setCell, World.size_drew, World.heap_drewN] at hs_w2)
        have hL2 := hLr.later (show Below wr.heap.size wr w2 from (by repeat (first | exact Below.refl _ _ | assumption | (refine below_drewN ?_ _) | (refine Below.drew ?_) | (refine Below.alloc ?_ (by first | omega | (simp; omega) | simp) _) | (refine Below.setCell ?_ (by first | omega | (simp; omega) | simp) _) | (refine below_trans ?_ (by assumption) (by first | omega | (simp; omega) | simp)))))
        have IB2 : IsB w1.heap.size w1.heap.size (printL (l.take k)) w2 := isB_later IB.out (show Below wr.heap.size wr w2 from (by repeat (first | exact Below.refl _ _ | assumption | (refine below_drewN ?_ _) | (refine Below.drew ?_) | (refine Below.alloc ?_ (by first | omega | (simp; omega) | simp) _) | (refine Below.setCell ?_ (by first | omega | (simp; omega) | simp) _) | (refine below_trans ?_ (by assumption) (by first | omega | (simp; omega) | simp)))))
        go_wp2_with fail
        go_at_call 26
        refine (writeString_any w1.heap.size w1.heap.size _ _ IB2 HL3.out (by omega)).mono ?_
        rintro e w3 ⟨v3, rfl, iB3, hb_w3⟩
        have HI3 := Lib.hid iB3
        have hs3 := hb_w3.size
        have HB2 := Lib.hid (show Below w1.heap.size w1 w2 from (by repeat (first | exact Below.refl _ _ | assumption | (refine below_drewN ?_ _) | (refine Below.drew ?_) | (refine Below.alloc ?_ (by first | omega | (simp; omega) | simp) _) | (refine Below.setCell ?_ (by first | omega | (simp; omega) | simp) _) | (refine below_trans ?_ (by assumption) (by first | omega | (simp; omega) | simp)))))
        have HB3 := Lib.hid hb_w3
        clear iB3 hb_w3 IB2
        go_wp2
        go_roundw
        case rel => exact ⟨k + 1, by go_num, by omega, by rw [← HPK2.out]; exact HI3.out, isB_lt HI3.out, HB2.out.trans HB3.out⟩
        case measure => simp [intOf]; omega
      · obtain rfl : k = l.length := by omega
        have HP9 : Hid (printL (l.take l.length) = printL l) := Lib.hid (by rw [List.take_length])
        have HB9 := Lib.hid (show Below w.heap.size w wr from (by repeat (first | exact Below.refl _ _ | assumption | (refine below_drewN ?_ _) | (refine Below.drew ?_) | (refine Below.alloc ?_ (by first | omega | (simp; omega) | simp) _) | (refine Below.setCell ?_ (by first | omega | (simp; omega) | simp) _) | (refine below_trans ?_ (by assumption) (by first | omega | (simp; omega) | simp)))))
        have HW9 : Hid (w.heap.size ≤ w1.heap.size) := Lib.hid (by omega)
        go_wp2_with fail
        go_at_call 28
        refine (bString_any w1.heap.size w1.heap.size _ IB.out (by omega)).mono ?_
        rintro e w4 ⟨rfl, hb_w4⟩
        have HB4 := Lib.hid hb_w4
        clear hb_w4
        go_wp2
        go_ret2
        exact ⟨.inl ⟨HOK.out, rfl⟩, below_trans HB9.out HB4.out HW9.out⟩
  · have HC := Lib.hid fun (w : World) hr => check_any (w := w) (A := A) (l := l) cap hr hl 2 (.inr ⟨hok, rfl⟩)
    have HOK := Lib.hid hok
    clear hok
    go_enter Tryd.func12, Tryd.ntmps12
    go_wp2_with fail
    go_at_call 20
    refine (HC.out _ (hr.later (by repeat (first | exact Below.refl _ _ | assumption | (refine below_drewN ?_ _) | (refine Below.drew ?_) | (refine Below.alloc ?_ (by first | omega | (simp; omega) | simp) _) | (refine Below.setCell ?_ (by first | omega | (simp; omega) | simp) _) | (refine below_trans ?_ (by assumption) (by first | omega | (simp; omega) | simp)))))).mono ?_
    rintro e w1 ⟨rfl, hb_w1⟩
    obtain ⟨hc_w1, hf_w1⟩ := bcell hb_w1; have hs_w1 := hb_w1.size; (try simp only [World.size_alloc, World.size_setCell, World.size_drew, World.heap_drewN] at hs_w1)
    go_wp2
    go_ret2
    exact ⟨.inr ⟨HOK.out, rfl⟩, (by repeat (first | exact Below.refl _ _ | assumption | (refine below_drewN ?_ _) | (refine Below.drew ?_) | (refine Below.alloc ?_ (by first | omega | (simp; omega) | simp) _) | (refine Below.setCell ?_ (by first | omega | (simp; omega) | simp) _) | (refine below_trans ?_ (by assumption) (by first | omega | (simp; omega) | simp))))⟩
end
end Go.Proofs.YtklbamkafldagaaDoor
