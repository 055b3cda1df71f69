/- Whether a list has an address; the walk of the law TopTables. -/
import Derived.Test.YtdeopodfpeeenaaDoorTB1
namespace Go.Proofs.YtdeopodfpeeenaaDoor
open Go.RowKit
set_option linter.unusedVariables false
set_option linter.unusedSimpArgs false

theorem OwnsN.far {w : World} {B n cap : Nat} {A : Option Addr} {t : List Nat} (h : OwnsN w B A n cap t) {p : Addr} (hp : p.block < B) (u : Value) : OwnsN (w.setCell p u) B A n cap t :=
  ⟨h.len, h.words, ownsRow_setCell_below h.row_ (a := p) hp u⟩
set_option maxHeartbeats 1000000 in
theorem hasL_any {w : World} {G : Option Addr} {gs : List Nat} (cg : Nat) (hq : Row w w.heap.size G gs) (hgl : gs.length ≤ 17592186044416) (a : Nat) (b : Bool) (hb : (b = true ∧ a ∈ gs) ∨ (b = false ∧ ¬ a ∈ gs)) :
    Calls Tryd.prog 11 #[.slice G gs.length cg, .int .u64 (a : Nat)] w fun e w' => e = .returned (.bool b) ∧ Below w.heap.size w w' := by
  have HB := Lib.hid hb
  clear hb
  go_enter Tryd.func11, Tryd.ntmps11
  go_wp2_with fail
  go_loopw [9] (fun ii wr => ∃ k : Nat, ii = .int .i64 (k : Nat) ∧ k ≤ gs.length ∧ Hid (¬ a ∈ gs.take k) ∧ w.heap.size ≤ wr.heap.size ∧ Below w.heap.size w wr) (fun ii _ => gs.length - (intOf ii).toNat)
  case atStart => exact ⟨0, rfl, Nat.zero_le _, Lib.hid (by simp), (by first | omega | (simp; omega) | simp), (by repeat (first | exact Below.refl _ _ | assumption | (refine below_drewN ?_ _) | (refine Below.drew ?_) | (refine Below.alloc ?_ (by first | omega | (simp; omega) | simp) _) | (refine Below.setCell ?_ (by first | omega | (simp; omega) | simp) _) | (refine below_trans ?_ (by assumption) (by first | omega | (simp; omega) | simp))))⟩
  case round =>
    obtain ⟨k, rfl, hk, hA, hsz, hb_wr⟩ := hrel
    have hsr := hb_wr.size
    by_cases hlt : k < gs.length
    · obtain ⟨b', off, rfl, hbb, hcc⟩ := (hq.later hb_wr).cellAt (k := k) hlt
      have i1 : (k : Int) < (gs.length : Int) := by omega
      have i2 : (0 : Int) ≤ (k : Int) := by omega
      have HT := take_getD hlt a
      have HM : gs.getD k 0 ∈ gs := by rw [List.getD_eq_getElem?_getD, List.getElem?_eq_getElem hlt]; exact List.getElem_mem hlt
      generalize gs.getD k 0 = x at *
      by_cases hx : x = a
      · subst hx
        have hbt : b = true := by
          rcases HB.out with ⟨h, _⟩ | ⟨_, h⟩
          · exact h
          · exact absurd HM h
        have f1 : ((x : Int) == (x : Int)) = true := by simp
        subst hbt
        clear HT HM
        go_wp2
        go_ret
        exact ⟨rfl, (by repeat (first | exact Below.refl _ _ | assumption | (refine below_drewN ?_ _) | (refine Below.drew ?_) | (refine Below.alloc ?_ (by first | omega | (simp; omega) | simp) _) | (refine Below.setCell ?_ (by first | omega | (simp; omega) | simp) _) | (refine below_trans ?_ (by assumption) (by first | omega | (simp; omega) | simp))))⟩
      · have f1 : ((x : Int) == (a : Int)) = false := by rw [beq_eq_false_iff_ne]; omega
        have HA1 : Hid (¬ a ∈ gs.take (k + 1)) := Lib.hid fun h => by
          rcases HT.1 h with h | h
          · exact hA.out h
          · exact hx h.symm
        clear HT HM hx
        go_wp2
        go_roundw
        case rel => exact ⟨k + 1, by go_num, by omega, HA1, (by first | omega | (simp; omega) | simp), (by repeat (first | exact Below.refl _ _ | assumption | (refine below_drewN ?_ _) | (refine Below.drew ?_) | (refine Below.alloc ?_ (by first | omega | (simp; omega) | simp) _) | (refine Below.setCell ?_ (by first | omega | (simp; omega) | simp) _) | (refine below_trans ?_ (by assumption) (by first | omega | (simp; omega) | simp))))⟩
        case measure => simp [intOf]; omega
    · have hbf : b = false := by
        rcases HB.out with ⟨_, h⟩ | ⟨h, _⟩
        · have h9 := hA.out
          rw [List.take_of_length_le (by omega)] at h9
          exact absurd h h9
        · exact h
      subst hbf
      go_wp2
      go_ret
      exact ⟨rfl, (by repeat (first | exact Below.refl _ _ | assumption | (refine below_drewN ?_ _) | (refine Below.drew ?_) | (refine Below.alloc ?_ (by first | omega | (simp; omega) | simp) _) | (refine Below.setCell ?_ (by first | omega | (simp; omega) | simp) _) | (refine below_trans ?_ (by assumption) (by first | omega | (simp; omega) | simp))))⟩
theorem u64_of {k : Nat} (h : k ≤ 4096) : IntKind.u64.wrap (k : Int) = (k : Int) := by rw [IntKind.wrap_u64]; omega
theorem MkE.zero {t : List Nat} {a : Nat} {r : List Nat} {h : Nat} {y : Int} (hE : MkE t a r h y) (hok : OkW t) (ha : a ≠ 0) (hl : t.length < 64) : y = 0 := by
  rcases hE with ⟨h9, _⟩ | ⟨_, h9, _⟩ | ⟨_, _, _, _, _, h9⟩ | ⟨_, _, _, h9, _⟩ | ⟨_, _, _, _, _, _, h9⟩
  · exact absurd hok h9
  · exact absurd h9 ha
  · exact h9
  · omega
  · exact h9
theorem Both2.after {xs : List Nat} {k : Nat} {l : List Es} {t : List Nat} (h : Both2 xs k l t) (gs : List Nat) : ∃ r u ls, DelT l gs r ls.length 0 ∧ ClrE t gs u ls 0 ∧ OkT r ∧ OkW u ∧
    ∀ a v hh y1 y2, GetT r a v y1 → HanE u a hh y2 → a ∈ xs.take k → y1 = y2 ∧ (a ≠ 0 → (y1 = 0 ↔ ¬ a ∈ gs)) :=
  ⟨_, _, _, .inr ⟨h.okt, rfl, (h.count gs).symm, rfl⟩, .inr ⟨h.okh.1, rfl, rfl, rfl⟩, h.okt.dlK gs _, okW_clr gs h.okh.1, fun a v hh y1 y2 h1 h2 hx => h.ask gs a v hh y1 y2 h1 h2 (okW_clr gs h.okh.1) hx⟩
theorem mem_take_of {xs : List Nat} {j K : Nat} (hj : j < xs.length) (hK : j < K) : xs.getD j 0 ∈ xs.take K := by
  rw [List.getD_eq_getElem?_getD, List.getElem?_eq_getElem hj, Option.getD_some]
  exact List.mem_take_iff_getElem.2 ⟨j, by omega, rfl⟩
end Go.Proofs.YtdeopodfpeeenaaDoor
