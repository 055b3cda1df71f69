/- What a slice of words reads as; the check of bits. -/
import Derived.Test.YtklbamkafldagaaDoorLeaf
import Derived.Laws.OwnMore
import Derived.Laws.Rows
import Derived.Deep.Draws
namespace Go.Proofs.YtklbamkafldagaaDoor
open Go.RowKit

/-- the slice at A of so many words reads as ws, below block B -/
structure Row (w : World) (B : Nat) (A : Option Addr) (ws : List Nat) : Prop where
  words : Words ws
  at_ : 0 < ws.length → ∃ b off, A = some ⟨b, off, none⟩ ∧ b < B ∧ ∀ i, i < ws.length → w.cell? ⟨b, off + i, none⟩ = some (.int .u64 (ws.getD i 0 : Nat))

theorem Row.keep {w w' : World} {B : Nat} {A : Option Addr} {ws : List Nat} (h : Row w B A ws) (hk : ∀ b o, b < B → w'.cell? ⟨b, o, none⟩ = w.cell? ⟨b, o, none⟩) : Row w' B A ws :=
  ⟨h.words, fun hl => by
    obtain ⟨b, off, e, hb, hc⟩ := h.at_ hl
    exact ⟨b, off, e, hb, fun i hi => (hk _ _ hb).trans (hc i hi)⟩⟩
theorem Row.more {w : World} {B B' : Nat} {A : Option Addr} {ws : List Nat} (h : Row w B A ws) (hB : B ≤ B') : Row w B' A ws :=
  ⟨h.words, fun hl => by
    obtain ⟨b, off, e, hb, hc⟩ := h.at_ hl
    exact ⟨b, off, e, by omega, hc⟩⟩
theorem Row.below {w w' : World} {B : Nat} {A : Option Addr} {ws : List Nat} (h : Row w B A ws) (hb : Below B w w') : Row w' B A ws :=
  h.keep fun b o hlt => hb.cell (p := ⟨b, o, none⟩) hlt
theorem Row.keep_ {w w' : World} {A : Option Addr} {ws : List Nat} (h : Row w w.heap.size A ws) (hb : Below w.heap.size w w') : Row w' w'.heap.size A ws := (h.below hb).more hb.size
theorem Row.later {w w' : World} {A : Option Addr} {ws : List Nat} (h : Row w w.heap.size A ws) (hb : Below w.heap.size w w') : Row w' w'.heap.size A ws :=
  (h.below hb).more hb.size
theorem below_drewN {B : Nat} {a w : World} (h : Below B a w) (n : Nat) : Below B a (w.drewN n) := ⟨h.os, h.tape, h.output, h.size, h.block⟩
theorem below_trans {B B' : Nat} {a b c : World} (h : Below B a b) (k : Below B' b c) (hB : B ≤ B') : Below B a c := h.trans (k.mono hB)

theorem bcell {B : Nat} {W w1 : World} (hb : Below B W w1) : (∀ b o, b < B → w1.cell? ⟨b, o, none⟩ = W.cell? ⟨b, o, none⟩) ∧ (∀ b o, b < B → w1.frozen? ⟨b, o, none⟩ = W.frozen? ⟨b, o, none⟩) :=
  ⟨fun b o h => hb.cell (p := ⟨b, o, none⟩) h, fun b o h => hb.frozen (p := ⟨b, o, none⟩) h⟩

section
variable (n : Int) (A : Option Addr) (len cap : Nat) (w : World)
end

end Go.Proofs.YtklbamkafldagaaDoor
