/- The walk of the law SpanFinds. -/
import Derived.Test.YthphefoohkofbaaS36
import Derived.Test.YthphefoohkofbaaS37
namespace Go.Proofs.Ythphefoohkofbaa
open Go.RowKit
set_option linter.unusedVariables false
set_option linter.unusedSimpArgs false

section
variable {w : World} {A : Option Addr} {l : List Sd} (cap : Nat)
set_option maxHeartbeats 4000000 in
theorem spanFinds_walk (a : Nat) (size : Int) (w : World) (hr : SRow w w.heap.size A l) (hl : l.length ≤ 1466015503658) (ha : a < W64) :
    Calls Try.prog 4 #[.slice A l.length cap, .int .u64 (a : Nat), .int .i64 size] w fun e w' => e = .returned (.bool true) ∧ Below w.heap.size w w' := by
  have hl2 : l.length ≤ 17592186044416 := by omega
  obtain ⟨x1, k1, y1, hF1⟩ := FindE.ex l a
  obtain ⟨x2, k2, y2, hF2⟩ := RoomE.ex l size
  have H1 := Lib.hid fun (w : World) hr => sfind_any (w := w) (A := A) (l := l) cap hr hl2 a x1 k1 y1 hF1
  have H2 := Lib.hid fun (w : World) hr => xfindL_any (w := w) (A := A) (l := l) cap hr hl2 a ha x1 k1 y1 hF1
  have H3 := Lib.hid fun (w : World) hr => sroom_any (w := w) (A := A) (l := l) cap hr hl2 size x2 k2 y2 hF2
  have H4 := Lib.hid fun (w : World) hr => xroomL_any (w := w) (A := A) (l := l) cap hr hl2 size x2 k2 y2 hF2
  have HR := Lib.hid fun (W : World) (hb : Below w.heap.size w W) => hr.later hb
  clear hF1 hF2
  have n1 : (x1 == x1) = true := by simp
  have n2 : (k1 == k1) = true := by simp
  have n3 : (y1 == y1) = true := by simp
  have n4 : (x2 == x2) = true := by simp
  have n5 : (k2 == k2) = true := by simp
  have n6 : (y2 == y2) = true := by simp
  go_enter Try.func4, Try.ntmps4
  go_wp2_with fail
  go_at_call 21
  refine (H1.out _ hr).mono ?_
  rintro e w1 ⟨rfl, b1⟩
  have hs1 := b1.size
  go_wp2_with fail
  go_at_call 22
  refine (H2.out _ (HR.out _ b1)).mono ?_
  rintro e w2 ⟨rfl, c2⟩
  have hs2 := c2.size
  have b2 : Below w.heap.size w w2 := b1.trans (c2.mono (by omega))
  go_wp2_with fail
  go_at_call 23
  refine (H3.out _ (HR.out _ b2)).mono ?_
  rintro e w3 ⟨rfl, c3⟩
  have hs3 := c3.size
  have b3 : Below w.heap.size w w3 := b2.trans (c3.mono (by omega))
  go_wp2_with fail
  go_at_call 24
  refine (H4.out _ (HR.out _ b3)).mono ?_
  rintro e w4 ⟨rfl, c4⟩
  have hs4 := c4.size
  have b4 : Below w.heap.size w w4 := b3.trans (c4.mono (by omega))
  go_wp2_with fail
  go_at_call 17
  refine (slives_any _).mono ?_
  rintro e w5 ⟨rfl, c5⟩
  have b5 : Below w.heap.size w w5 := b4.trans (c5.mono (by omega))
  go_wp2
  go_ret
  exact ⟨rfl, b5⟩
end
end Go.Proofs.Ythphefoohkofbaa
