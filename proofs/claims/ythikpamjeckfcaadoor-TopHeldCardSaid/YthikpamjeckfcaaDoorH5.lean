/- The state in which the rows are about to be cut, when the new pages were stored in a block laid ahead of the call. -/
import Derived.Test.YthikpamjeckfcaaDoorH4
namespace Go.Proofs.YthikpamjeckfcaaDoor
open Go.RowKit
set_option linter.unusedVariables false
set_option linter.unusedSimpArgs false

theorem CSt.of_set {w5 w0 : World} {B pb qb n L cap gF cF gS cS : Nat} {A : Option Addr} {us gs ts : List Nat} {u v : Value} (t5 : Two w5 qb u v) (two : ∃ u v, Two w5 pb u v) (row : Row w5 w5.heap.size A us)
    (f : Row2 w5 B (some ⟨gF, 0, none⟩) cF gs) (s : Row2 w5 B (some ⟨gS, 0, none⟩) cS ts) (low : pb < B) (big : B ≤ w5.heap.size) (qlt : qb < w5.heap.size) (apq : pb ≠ qb)
    (apA : 0 < us.length → ∀ b o, A = some ⟨b, o, none⟩ → pb ≠ b) (aq : 0 < us.length → ∀ b o, A = some ⟨b, o, none⟩ → qb ≠ b) (nF : qb ≠ gF) (nS : qb ≠ gS) (q0 : w0.heap.size ≤ qb) (bel : Below w0.heap.size w0 w5) :
    CSt ((w5.setCell ⟨qb, 0, none⟩ (.int .i64 (n : Nat))).setCell ⟨qb, 1, none⟩ (.slice A L cap)) w0 B pb qb n L A cap us gF cF gS cS gs ts := by
  obtain ⟨u1, v1, t1⟩ := two
  have s2 := set_two (.int .i64 (n : Nat)) (.slice A L cap) t5.c0 t5.c1
  have g1 := grown_set w5 qb 0 (.int .i64 (n : Nat))
  have g2 := grown_set (w5.setCell ⟨qb, 0, none⟩ (.int .i64 (n : Nat))) qb 1 (.slice A L cap)
  have z1 : (w5.setCell ⟨qb, 0, none⟩ (.int .i64 (n : Nat))).heap.size = w5.heap.size := by simp
  have hlow : pb < w5.heap.size := by omega
  refine ⟨⟨u1, v1, two_grown (two_grown t1 g1 hlow (fun e => by injection e with e; omega)) g2 (by omega) (fun e => by injection e with e; omega)⟩,
    ⟨s2.1, s2.2, fun i => by rw [World.frozen?_setCell, World.frozen?_setCell]; exact t5.fr i⟩,
    row_grown (row_grown row g1 (fun h0 b o e e2 => aq h0 b o e (by injection e2))) g2 (fun h0 b o e e2 => aq h0 b o e (by injection e2)),
    (f.kept g1 (fun g => ne_blk (fun e => nF e.symm))).kept g2 (fun g => ne_blk (fun e => nF e.symm)),
    (s.kept g1 (fun g => ne_blk (fun e => nS e.symm))).kept g2 (fun g => ne_blk (fun e => nS e.symm)),
    low, by simpa using big, by simpa using qlt, apq, apA, (by repeat (first | exact Below.refl _ _ | assumption | (refine below_drewN ?_ _) | (refine Below.drew ?_) | (refine Below.alloc ?_ (by first | omega | (simp; omega) | simp) _) | (refine Below.setCell ?_ (by first | omega | (simp; omega) | simp) _) | (refine below_trans ?_ (by assumption) (by first | omega | (simp; omega) | simp))))⟩
end Go.Proofs.YthikpamjeckfcaaDoor
