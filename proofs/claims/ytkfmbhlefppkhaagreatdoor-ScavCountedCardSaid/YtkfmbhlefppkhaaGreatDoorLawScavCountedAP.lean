/- Parts of the proof. -/
import Derived.Test.YtkfmbhlefppkhaaGreatDoorScavQ20
import Derived.ProofKit
import Derived.OpenShut
import Derived.ShutString
import Derived.ChangeOld
import Derived.SizedLaws
import Derived.Lib.SmallJoins
import Derived.Deep.Slices
import Derived.LaidMore
import Derived.Stop.Joined
import Derived.Test.YtkfmbhlefppkhaaGreatDoorRows
set_option maxRecDepth 100000
set_option linter.unusedVariables false
set_option linter.unusedSimpArgs false
namespace Go.Proofs.YtkfmbhlefppkhaaGreatDoor
open Go.RowKit
theorem recW_count (ms os : List Nat) (p : Nat) (hp : p ≤ 64 * os.length) (hs : ∀ i, i < p → tb ms i = true → tb os i = true) (n : Nat) (hn : p ≤ n) : countTo (recW ms p os) n + countTo ms p = countTo os n := by
  induction p with
  | zero => rfl
  | succ p ih =>
    have ih := ih (by omega) (fun i hi => hs i (by omega)) (by omega)
    have ht := recW_tb ms os p (by omega) p
    rw [recW, countTo]
    by_cases hm : tb ms p = true
    · rw [if_pos hm, hm]
      have hc := countTo_putW (recW ms p os) p false n (by rw [recW_len]; omega)
      rw [hs p (by omega) hm] at ht
      simp at ht
      rw [if_pos (by omega), ht] at hc
      simp [b2i] at hc
      simp
      omega
    · have h0 : tb ms p = false := by simpa using hm
      rw [if_neg hm, h0]
      simpa using ih
theorem newSc_count {s : Sc} (k : OkS s) {h' : Hp} (hk : OkH h') (hn : h'.n = s.h.n) : countTo (newSc s h').os s.n.toNat + countTo (bothTo s.os h'.us h'.us.length) s.n.toNat = countTo s.os s.n.toNat := by
  obtain ⟨n0, n1, n2⟩ := k.nn
  have hl : s.os.length = h'.us.length := right_same k.o (by rw [k.n, ← hn]; exact hk.framed.pages)
  refine recW_count _ _ _ n2 (fun i _ hi => ?_) _ (Nat.le_refl _)
  rw [both_tb hl] at hi
  simp at hi
  exact hi.1
section
variable {w w' : World} {b : Nat} {v0 v1 v2 v3 v4 v5 v6 v7 : Value}
end
def shpc (s : Shp) : List Value := [.int .i64 s.n, .int .u64 (s.m : Nat)]
end Go.Proofs.YtkfmbhlefppkhaaGreatDoor
namespace Go.Proofs.YtkfmbhlefppkhaaGreatDoor
open Go.ChangeShapes Go.WideShapes Go.ChangeAt Go.RowKit Go.Joins
theorem cells_shape : Tryz.prog.cellsOf 34 = 2 := by kernel_rfl
theorem cells_heap : Tryz.prog.cellsOf 31 = 4 := by kernel_rfl
section
variable {H : Type} {enc : TypeId × Value → H} {W : World}
theorem open_heap {r : Reach} {b0 : Nat} {v : Value} {d : DataW H} {p : List MemPlace} (hv : Value.okWide Tryz.prog W r b0 31 v) (h : DataW.Trod enc Tryz.prog W 0 (fun _ => true) true 31 v d p) (hw : ∀ x ∈ d.weights Tryz.prog 31, x ≤ reachBytes) :
    ∃ (u : Hv) (h : Hp), v = hpV u h ∧ HM W W.heap.size u h ∧ Short h ∧ (u.V = none → u.cv = 0) := by
  obtain ⟨cs, rfl, hsz⟩ := okWide_struct Tryz.underlying31 hv
  obtain ⟨fuel, hf⟩ := h
  obtain ⟨xs, n, _, hx, hcl, hlen, hff⟩ := DataW.trod_struct Tryz.underlying31 hf
  rw [cells_heap] at hcl
  have hd : d = _ := congrArg Prod.fst hx
  obtain ⟨l⟩ := cs
  simp only [Value.cells] at hcl hff
  match l, hcl, xs, hlen with
  | [v0, v1, v2, v3], _, [y0, y1, y2], _ =>
    have g0 := hff 0 _ rfl
    have g1 := hff 1 _ rfl
    have g2 := hff 2 _ rfl
    obtain ⟨A, ca, ws, e0, rA, lA⟩ := open_acells (show DataW.trod enc Tryz.prog W 0 (fun _ => true) true n 24 [v0] = some y0 from g0) (fun z hz => hw z (by
      rw [hd]
      simp only [DataW.weights, Tryz.underlying31]
      simp only [DataW.weightsEach, List.map_cons, List.map_nil, List.mem_append]
      exact .inl hz))
    obtain ⟨k, U, cu, us, e1, e2, rU, lU⟩ := open_pcells (show DataW.trod enc Tryz.prog W 0 (fun _ => true) true n 28 [v1, v2] = some y1 from g1) (fun z hz => hw z (by
      rw [hd]
      simp only [DataW.weights, Tryz.underlying31]
      simp only [DataW.weightsEach, List.map_cons, List.map_nil, List.mem_append]
      exact .inr (.inl hz)))
    obtain ⟨V, cv, l, e3, rV, _, nV, lV, wV⟩ := open_spans (show DataW.trod enc Tryz.prog W 0 (fun _ => true) true n 29 [v3] = some y2 from g2) (fun z hz => hw z (by
      rw [hd]
      simp only [DataW.weights, Tryz.underlying31]
      simp only [DataW.weightsEach, List.map_cons, List.map_nil, List.mem_append]
      exact .inr (.inr (.inl hz))))
    exact ⟨⟨A, ca, U, cu, V, cv⟩, ⟨ws, k, us, l⟩, by rw [e0, e1, e2, e3]; rfl, ⟨rA, rU, rV⟩, ⟨lV, lA, lU, wV⟩, nV⟩
end
end Go.Proofs.YtkfmbhlefppkhaaGreatDoor
namespace Go.Proofs.YtkfmbhlefppkhaaGreatDoor
open Go.ChangeShapes Go.WideShapes Go.ChangeAt Go.RowKit Go.Joins
theorem bytes_shape : Tryz.prog.bytesOf 34 = 16 := by kernel_rfl
section
variable {H : Type} {enc : TypeId × Value → H} {W : World}
theorem open_shp {fuel : Nat} {cs : List Value} {x : DataW H × List MemPlace} (h : DataW.trod enc Tryz.prog W 0 (fun _ => true) true fuel 34 cs = some x) : ∃ s : Shp, cs = shpc s ∧ s.m < W64 := by
  obtain ⟨xs, n, _, _, hlen, hxl, hf⟩ := DataW.trod_struct Tryz.underlying34 h
  rw [cells_shape] at hlen
  match cs, hlen, xs, hxl with
  | [v0, v1], _, [y0, y1], _ =>
    have g0 := hf 0 _ rfl
    have g1 := hf 1 _ rfl
    obtain ⟨a, e0, _⟩ := DataW.trod_int Tryz.underlying3 (show DataW.trod enc Tryz.prog W 0 (fun _ => true) true n 3 [v0] = some y0 from g0)
    obtain ⟨k, e1, _, wk⟩ := DataW.trod_int Tryz.underlying32 (show DataW.trod enc Tryz.prog W 0 (fun _ => true) true n 32 [v1] = some y1 from g1)
    injection e0 with e0
    injection e1 with e1
    have bk := bounds_u64 wk
    refine ⟨⟨a, k.toNat⟩, ?_, ?_⟩
    · rw [e0, e1]
      unfold shpc
      simp only [Int.toNat_of_nonneg bk.1]
    · unfold W64
      show k.toNat < _; omega
theorem okWide_shps {r : Reach} {b0 : Nat} {v : Value} (hv : Value.okWide Tryz.prog W r b0 83 v) : v.cells.toList = [v] := by
  simp only [Value.okWide, Tryz.underlying83, Cell.okWide] at hv
  cases v <;> simp_all [Cell.ok, Value.cells]
theorem open_shapes {r : Reach} {b0 : Nat} {v : Value} {d : DataW H} {p : List MemPlace} (hv : Value.okWide Tryz.prog W r b0 83 v) (h : DataW.Trod enc Tryz.prog W 0 (fun _ => true) true 83 v d p) (hw : ∀ x ∈ d.weights Tryz.prog 83, x ≤ reachBytes) :
    ∃ (A : Option Addr) (cap : Nat) (l : List Shp), v = .slice A l.length cap ∧ ShpRow W W.heap.size A l ∧ l.length ≤ 17592186044416 := by
  obtain ⟨fuel, hf⟩ := h
  rw [okWide_shps hv] at hf
  rcases Go.Deep.open_slice Tryz.underlying83 hf with ⟨hcs, _⟩ | ⟨a, len, cap, m, n, D, Pl, hcs, _, hlc, hcm, hm, hx, hel⟩
  · injection hcs with hcs
    exact ⟨none, 0, [], hcs, fun h => by simp at h, Nat.zero_le _⟩
  · injection hcs with hcs
    simp only [if_true] at hm
    have hm := hm.symm
    subst hm
    have each : ∀ i, i < cap → ∃ s : Shp, s.m < W64 ∧ ∀ j v, (shpc s)[j]? = some v → W.cell? ((a.add (i * 2)).add j) = some v := fun i hi => by
      obtain ⟨cs', h1, h2⟩ := hel i hi
      obtain ⟨s, rfl, hs⟩ := open_shp h2
      rw [cells_shape] at h1
      obtain ⟨_, _, hc⟩ := World.cells?_some h1
      refine ⟨s, hs, fun j v hj => ?_⟩
      have hj3 : j < 2 := by
        have := (List.getElem?_eq_some_iff.1 hj).1
        simpa [shpc] using this
      rw [hc j hj3]
      exact hj
    obtain ⟨f, hfs⟩ : ∃ f : Nat → Shp, ∀ i, i < cap → (f i).m < W64 ∧ ∀ j v, (shpc (f i))[j]? = some v → W.cell? ((a.add (i * 2)).add j) = some v := Go.Deep.choose_lt each
    have hlen : ((List.range len).map f).length = len := by simp
    refine ⟨some a, cap, (List.range len).map f, by rw [hlen]; exact hcs, fun h0 => ?_, ?_⟩
    · rw [hlen] at h0
      obtain ⟨b, off, spot⟩ := a
      have hc0 := (hfs 0 (by omega)).2 0 _ rfl
      have hspot : spot = none := by simpa [Addr.add] using World.cell?_spot hc0
      subst hspot
      refine ⟨b, off, rfl, World.block_lt_of_cell? W _ (by simpa [add_form] using hc0), fun i hi => ?_⟩
      replace hi : i < len := by simpa using hi
      have e : nthF ((List.range len).map f) i = f i := by
        unfold nthF
        simp [List.getD_eq_getElem?_getD, hi]
      rw [e]
      obtain ⟨q1, hq⟩ := hfs i (by omega)
      have k0 := hq 0 _ rfl
      have k1 := hq 1 _ rfl
      rw [add_form, add_form] at k0 k1
      exact ⟨q1, by simpa using k0, k1⟩
    · rw [hlen]
      have := hw (((List.range len).map D).length * 16 + ((List.range (cap - len)).map fun j => D (len + j)).length * 16) (by
        rw [show d = _ from congrArg Prod.fst hx]
        simp [DataW.weights, Tryz.underlying83, bytes_shape, Nat.add_mul])
      simp only [List.length_map, List.length_range, reachBytes] at this
      omega
end
end Go.Proofs.YtkfmbhlefppkhaaGreatDoor
namespace Go.Proofs.YtkfmbhlefppkhaaGreatDoor
open Go.RowKit
theorem and3 (x : Int) : ∃ r : Nat, r ≤ 3 ∧ bits .and .i64 x 3 = (r : Int) := by
  have h : ((BitVec.ofInt 64 x) &&& (BitVec.ofInt 64 3)).toNat ≤ 3 := by
    rw [BitVec.toNat_and]
    exact Nat.le_trans Nat.and_le_right (by decide)
  have e : bits .and .i64 x 3 = IntKind.i64.wrap ((((BitVec.ofInt 64 x) &&& (BitVec.ofInt 64 3)).toNat : Nat) : Int) := rfl
  refine ⟨_, h, ?_⟩
  rw [e]
  exact IntWalk.i64_in _ (by omega)
theorem cnt_make {h : Hp} : Cnt (makS h) := by
  have h0 : countTo (wordsN h.n) h.n.toNat = 0 := count_zero fun k _ => by unfold wordsN; rw [tb_zeros]
  refine ⟨by unfold W64; show (0 : Nat) < _; omega, by unfold W64; show (0 : Nat) < _; omega, ?_⟩
  show (((0 : Nat) : Int) - ((0 : Nat) : Int) - (countTo (wordsN h.n) h.n.toNat : Nat)) % 18446744073709551616 = 0
  rw [h0]
  rfl
theorem cnt_rel {s : Sc} (c : Cnt s) (k : OkS s) (m : Nat) : Cnt (relSc s m) := by
  obtain ⟨h1, h2, h3⟩ := c
  obtain ⟨h4, _⟩ := relSc_count k m
  have hn : (relSc s m).n = s.n := rfl
  have hg : (relSc s m).go = (s.go + relG s.h.us s.n.toNat s.os m) % W64 := rfl
  refine ⟨h1, by rw [hg]; exact Nat.mod_lt _ (by unfold W64; omega), ?_⟩
  rw [hn, hg, h4]
  show ((((s.go + relG s.h.us s.n.toNat s.os m) % W64 : Nat) : Int) - (s.fa : Int) - _) % _ = 0
  unfold W64
  omega
theorem cnt_new {s : Sc} (c : Cnt s) (k : OkS s) {h' : Hp} (hk : OkH h') (hn : h'.n = s.h.n) : Cnt (newSc s h') := by
  obtain ⟨h1, h2, h3⟩ := c
  have h4 := newSc_count k hk hn
  have hf : (newSc s h').fa = (s.fa + countTo (bothTo s.os h'.us h'.us.length) s.n.toNat) % W64 := rfl
  have hnn : (newSc s h').n = s.n := rfl
  refine ⟨by rw [hf]; exact Nat.mod_lt _ (by unfold W64; omega), h2, ?_⟩
  rw [hnn, hf]
  show ((s.go : Int) - (((s.fa + countTo (bothTo s.os h'.us h'.us.length) s.n.toNat) % W64 : Nat) : Int) - _) % _ = 0
  unfold W64
  omega
theorem NwE.cnt {s : Sc} (c : Cnt s) (k : OkS s) {n : Int} {m : Nat} {bl : Bool} {s' : Sc} {a : Nat} {y : Int} (hE : NwE s n m bl s' a y) : OkS s' ∧ Cnt s' := by
  rcases hE with ⟨h1, _⟩ | ⟨_, _, _, e, _⟩ | ⟨_, h', hN, e, _⟩
  · exact absurd k h1
  · rw [e]; exact ⟨k, c⟩
  · have hk' := hN.made.2.1
    have hn := hN.n k.h
    rw [e]
    exact ⟨newSc_ok k hk' hn, cnt_new c k hk' hn⟩
set_option maxHeartbeats 8000000 in
theorem scavCounted_walk (v : Hv) (h : Hp) (A : Option Addr) (ca : Nat) (xs : List Shp) (q : Int) (w : World) (hz : Sizes w) (m : HM w w.heap.size v h) (hs : Short h) (hnil : v.V = none → v.cv = 0) (hr : ShpRow w w.heap.size A xs) (hl : xs.length ≤ 17592186044416) (hq : -9223372036854775808 ≤ q ∧ q ≤ 9223372036854775807) :
    Calls Tryz.prog 10 #[hpV v h, .slice A xs.length ca, .int .i64 q] w fun e w' => e = .returned (.bool true) ∧ Below w.heap.size w w' := by
  have X0 := HIn.new m 31
  obtain ⟨s', y, E⟩ := MkS.ex h
  have HK := Lib.hid fun (w : World) (v : Hv) z m n => fmake_any (w := w) (v := v) (h := h) z m hs n s' y E
  rcases E with ⟨hk, rfl, rfl⟩ | ⟨hk, he, rfl⟩
  · clear hk m hs
    unfold scV at HK
    unfold hpV hpv at HK ⊢
    go_enter Tryz.func10, Tryz.ntmps10
    go_wp2_with fail
    go_at_call 51
    refine (flives_any _ (hz.later bX)).mono ?_
    rintro e w1 ⟨rfl, hb_w1⟩
    have b_w1 : Below w.heap.size w w1 := bX
    replace X0 := X0.later hb_w1
    obtain ⟨X0_c0, X0_c1, X0_c2, X0_c3, X0_f0, X0_f1, X0_f2, X0_f3⟩ := id X0.box
    go_wp2_with fail
    go_at_call 57
    refine (HK.out _ _ (hz.later (by exact b_w1)) (by exact X0.m) hnil).mono ?_
    rintro e w2 ⟨v2, O2, c2, rfl, o2, hb_w2⟩
    clear X0_c0 X0_c1 X0_c2 X0_c3 X0_f0 X0_f1 X0_f2 X0_f3
    have b_w2 : Below w.heap.size w w2 := b_w1.trans (hb_w2.mono b_w1.size)
    replace X0 := X0.later hb_w2
    have a_w2_0 : Below w2.heap.size w2 (w2.alloc (.cells #[.slice v2.A sc0.h.ws.length v2.ca, .int .i64 sc0.h.n, .slice v2.U sc0.h.us.length v2.cu, .slice v2.V sc0.h.l.length v2.cv, .int .i64 sc0.n, .slice O2 sc0.os.length c2, .int .u64 (sc0.fa : Nat), .int .u64 (sc0.go : Nat)] 64)) := Below.alloc (Below.refl _ _) (Nat.le_refl _) _
    replace X0 := X0.later a_w2_0
    have b_w2_0 : Below w.heap.size w (w2.alloc (.cells #[.slice v2.A sc0.h.ws.length v2.ca, .int .i64 sc0.h.n, .slice v2.U sc0.h.us.length v2.cu, .slice v2.V sc0.h.l.length v2.cv, .int .i64 sc0.n, .slice O2 sc0.os.length c2, .int .u64 (sc0.fa : Nat), .int .u64 (sc0.go : Nat)] 64)) := b_w2.trans (a_w2_0.mono b_w2.size)
    have HB := b_w2_0
    go_wp2_with fail
    go_loopw [30] (fun kv wr => kv = .int .i64 0 ∧ Below w.heap.size w wr) (fun kv _ => 1)
    case atStart => exact ⟨rfl, HB⟩
    case round =>
      obtain ⟨rfl, b_wr⟩ := hrel
      by_cases h0 : 0 < xs.length
      · obtain ⟨bk, off, rfl, hbl, hc⟩ := (hr.later b_wr) h0
        obtain ⟨_, c0, c1⟩ := hc 0 h0
        rw [Nat.zero_mul, Nat.add_zero] at c0 c1
        have i1 : (0 : Int) < (xs.length : Int) := by omega
        have b9 := b_wr.alloc b_wr.size (.cells #[.int .i64 (nthF xs 0).n, .int .u64 ((nthF xs 0).m : Nat)] 34)
        clear hc
        go_wp2
        go_ret
        exact ⟨rfl, b9⟩
      · have hx0 : xs.length = 0 := by omega
        have hxs : xs = [] := List.eq_nil_of_length_eq_zero hx0
        subst hxs
        go_wp2
        go_ret
        exact ⟨rfl, b_wr⟩
  · have hk0 : OkS s' := by rw [he]; exact makS_ok hk
    have hc0 : Cnt s' := by rw [he]; exact cnt_make
    have Hok := Lib.hid hk0
    have Hcn := Lib.hid hc0
    clear hk m hs he hk0 hc0
    unfold scV at HK
    unfold hpV hpv at HK ⊢
    go_enter Tryz.func10, Tryz.ntmps10
    go_wp2_with fail
    go_at_call 51
    refine (flives_any _ (hz.later bX)).mono ?_
    rintro e w1 ⟨rfl, hb_w1⟩
    have b_w1 : Below w.heap.size w w1 := bX
    replace X0 := X0.later hb_w1
    obtain ⟨X0_c0, X0_c1, X0_c2, X0_c3, X0_f0, X0_f1, X0_f2, X0_f3⟩ := id X0.box
    go_wp2_with fail
    go_at_call 57
    refine (HK.out _ _ (hz.later (by exact b_w1)) (by exact X0.m) hnil).mono ?_
    rintro e w2 ⟨v2, O2, c2, rfl, o2, hb_w2⟩
    clear X0_c0 X0_c1 X0_c2 X0_c3 X0_f0 X0_f1 X0_f2 X0_f3
    have b_w2 : Below w.heap.size w w2 := b_w1.trans (hb_w2.mono b_w1.size)
    replace X0 := X0.later hb_w2
    have a_w2_0 : Below w2.heap.size w2 (w2.alloc (.cells #[.slice v2.A s'.h.ws.length v2.ca, .int .i64 s'.h.n, .slice v2.U s'.h.us.length v2.cu, .slice v2.V s'.h.l.length v2.cv, .int .i64 s'.n, .slice O2 s'.os.length c2, .int .u64 (s'.fa : Nat), .int .u64 (s'.go : Nat)] 64)) := Below.alloc (Below.refl _ _) (Nat.le_refl _) _
    replace X0 := X0.later a_w2_0
    have X2 := E8.new w2 (.slice v2.A s'.h.ws.length v2.ca) (.int .i64 s'.h.n) (.slice v2.U s'.h.us.length v2.cu) (.slice v2.V s'.h.l.length v2.cv) (.int .i64 s'.n) (.slice O2 s'.os.length c2) (.int .u64 (s'.fa : Nat)) (.int .u64 (s'.go : Nat)) 64
    have b_w2_0 : Below w.heap.size w (w2.alloc (.cells #[.slice v2.A s'.h.ws.length v2.ca, .int .i64 s'.h.n, .slice v2.U s'.h.us.length v2.cu, .slice v2.V s'.h.l.length v2.cv, .int .i64 s'.n, .slice O2 s'.os.length c2, .int .u64 (s'.fa : Nat), .int .u64 (s'.go : Nat)] 64)) := b_w2.trans (a_w2_0.mono b_w2.size)
    have oo := (o2.mono (B' := w.heap.size) b_w1.size).later a_w2_0
    have HB := b_w2_0
    have HO := Lib.hid oo.sm
    have w2l := b_w2.size
    clear o2 X0
    go_wp2_with fail
    go_loopw [30] (fun kv wr => ∃ (k : Nat) (v1 : Hv) (O1 : Option Addr) (c1 : Nat) (s1 : Sc), kv = .int .i64 (k : Nat) ∧ k ≤ xs.length ∧ k ≤ 10 ∧ Hid (OkS s1) ∧ Hid (Cnt s1) ∧ E8 wr w2.heap.size (.slice v1.A s1.h.ws.length v1.ca) (.int .i64 s1.h.n) (.slice v1.U s1.h.us.length v1.cu) (.slice v1.V s1.h.l.length v1.cv) (.int .i64 s1.n) (.slice O1 s1.os.length c1) (.int .u64 (s1.fa : Nat)) (.int .u64 (s1.go : Nat)) ∧ OwnsSc wr w.heap.size v1 O1 s1 ∧ Hid (SM wr v1 O1 s1) ∧ w2.heap.size < wr.heap.size ∧ Below w.heap.size w wr) (fun kv _ => xs.length - (intOf kv).toNat)
    case atStart => exact ⟨0, v2, O2, c2, s', rfl, Nat.zero_le _, Nat.zero_le _, Hok, Hcn, X2, oo, HO, X2.lt, HB⟩
    case round =>
      clear X2 oo HO HB
      obtain ⟨k, v1, O1, c1, s1, rfl, hk, hk10, Hok1, Hcn1, X1, o1, HM1, wrl, b_wr⟩ := hrel
      by_cases hlt : k < xs.length
      · obtain ⟨bk, off, rfl, hbl, hc⟩ := (hr.later b_wr) (by omega)
        obtain ⟨hmk, d0, d1⟩ := hc k hlt
        have i1 : (k : Int) < (xs.length : Int) := by omega
        have i2 : (0 : Int) ≤ (k : Int) := by omega
        obtain ⟨sn, sm⟩ : ∃ z : Shp, Hid (nthF xs k = z) := ⟨_, Lib.hid rfl⟩
        rw [sm.out] at hmk d0 d1
        obtain ⟨n, mk⟩ := sn
        simp only at hmk d0 d1
        clear hc
        have n1 := o1.h.nil
        have M1 := HM1.out
        have ok1 := Hok1.out
        have aS : Below wr.heap.size wr (wr.alloc (.cells #[.int .i64 n, .int .u64 (mk : Nat)] 34)) := Below.alloc (Below.refl _ _) (Nat.le_refl _) _
        have P1 := Two.new wr (.int .i64 n) (.int .u64 (mk : Nat)) 34
        have b_s := b_wr.trans (aS.mono b_wr.size)
        by_cases h10 : k = 10
        · subst h10
          go_wp2
          go_ret
          exact ⟨rfl, b_s⟩
        · have f10 : ((k : Int) == 10) = false := beq_eq_false_iff_ne.2 (by omega)
          have f11 : (k == 10) = false := beq_eq_false_iff_ne.2 h10
          obtain ⟨r, hr3, hrr⟩ := and3 (bits .xor .i64 q (k : Int))
          obtain ⟨s2, g, y, E2⟩ := RelE.ex s1 (r : Int)
          have HR := Lib.hid fun (w : World) (v : Hv) (O : Option Addr) (co : Nat) z m n => frelease_any (w := w) (v := v) (O := O) (s := s1) co z m ok1.h.short n (r : Int) (by omega) s2 g y E2
          obtain ⟨he2, hy0⟩ : s2 = relSc s1 r ∧ y = 0 := by
            rcases E2 with ⟨h1, _⟩ | ⟨_, h1, _⟩ | ⟨_, _, h2, _, h3⟩
            · exact absurd ok1 h1
            · omega
            · exact ⟨by rw [h2, Int.toNat_natCast], h3⟩
          have ok2 : OkS s2 := by rw [he2]; exact relSc_ok ok1 r
          have cn2 : Cnt s2 := by rw [he2]; exact cnt_rel Hcn1.out ok1 r
          obtain ⟨s3, a, y3, E3⟩ := NwE.ex s2 n mk false
          have HN := Lib.hid fun (w : World) (v : Hv) (O : Option Addr) (co : Nat) z m nn => fnew_any (w := w) (v := v) (O := O) (s := s2) co z m ok2.h.short nn cn2.1 n mk hmk false s3 a y3 E3
          obtain ⟨ok3, cn3⟩ := E3.cnt cn2 ok2
          have HCO := Lib.hid fun (w : World) (A : Option Addr) (c : Nat) hr => count_ok (n := s3.n) (A := A) (ws := s3.os) (w := w) c hr ok3.o
          obtain ⟨ta, tb2, y4, E4⟩ := TheE.ex s3
          have HTH := Lib.hid fun (w : World) (v : Hv) (O : Option Addr) (co : Nat) z m nn => fthere_any (w := w) (v := v) (O := O) (s := s3) co z m ok3.h.short nn ta tb2 y4 E4
          obtain ⟨h4a, h4b, rfl⟩ : ta = s3.n - (countTo s3.os s3.n.toNat : Nat) ∧ tb2 = s3.n - (countTo s3.os s3.n.toNat : Nat) - (countTo s3.h.us s3.n.toNat : Nat) ∧ y4 = 0 := by
            rcases E4 with ⟨h1, _⟩ | ⟨_, h1⟩
            · exact absurd ok3 h1
            · exact h1
          have HFR := Lib.hid fun (w : World) (A : Option Addr) (c : Nat) hr => free_ok (w := w) (n := s3.h.n) (A := A) (ws := s3.h.us) c hr ok3.h.framed.pages
          have hw3 := cn3.wrap ok3
          have hnn3 := ok3.nn
          have hcl3 := countTo_le s3.os s3.n.toNat
          have hcu3 := ok3.two
          have hn3 := ok3.n
          skip
          have htn : s3.h.n.toNat = s3.n.toNat := by rw [hn3]
          rw [htn] at HFR
          have HOK3 := Lib.hid ok3
          have HCN3 := Lib.hid cn3
          generalize countTo s3.os s3.n.toNat = k3 at *
          generalize countTo s3.h.us s3.n.toNat = u3 at *
          have f2 : ((k3 : Int) != (k3 : Int)) = false := by simp
          have f3 : (ta + (k3 : Int) != s3.n) = false := by simp; omega
          have f4 : (tb2 + (k3 : Int) != s3.h.n - (u3 : Int)) = false := by simp; omega
          have hb1 : 0 ≤ ta ∧ ta ≤ 4096 := by omega
          have hb2 : 0 ≤ tb2 ∧ tb2 ≤ 4096 := by omega
          have hb3 : k3 ≤ 4096 ∧ u3 ≤ 4096 := by omega
          have hb4 : 0 ≤ s3.h.n ∧ s3.h.n ≤ 4096 := by omega
          have hb5 : 0 ≤ s3.n ∧ s3.n ≤ 4096 := by omega
          have hcv : IntKind.u64.wrap (k3 : Int) = (k3 : Int) := IntWalk.u64_in _ (by omega)
          subst hy0
          clear E2 he2 ok2 cn2 E3 ok3 cn3 E4 h4a h4b hnn3 hcl3 hcu3 hn3 htn Hcn1 ok1 hr3
          skip
          unfold FreshSi at HR
          unfold FreshSa at HN
          unfold scV at HR HN HTH
          obtain ⟨x0, x1, x2, x3, x4, x5, x6, x7, xf⟩ := id X1
          have X1s := X1.later aS
          have M1s := M1.later aS
          go_wp2_with fail
          go_at_call 47
          refine (HR.out _ _ _ _ (hz.later (by exact b_s)) (by exact M1s) n1).mono ?_
          rintro e w3 ⟨v3, O3, c3, rfl, o3, hb_w3⟩
          clear x0 x1 x2 x3 x4 x5 x6 x7 xf
          have X1 := X1s.later hb_w3
          have P1 := P1.later hb_w3
          have b_3 := b_s.trans (hb_w3.mono b_s.size)
          have z3 := X1.lt
          have a3 : Below w3.heap.size w3 (w3.alloc (.cells #[.slice v3.A s2.h.ws.length v3.ca, .int .i64 s2.h.n, .slice v3.U s2.h.us.length v3.cu, .slice v3.V s2.h.l.length v3.cv, .int .i64 s2.n, .slice O3 s2.os.length c3, .int .u64 (s2.fa : Nat), .int .u64 (s2.go : Nat)] 64)) := Below.alloc (Below.refl _ _) (Nat.le_refl _) _
          have Y3 := E8.new w3 (.slice v3.A s2.h.ws.length v3.ca) (.int .i64 s2.h.n) (.slice v3.U s2.h.us.length v3.cu) (.slice v3.V s2.h.l.length v3.cv) (.int .i64 s2.n) (.slice O3 s2.os.length c3) (.int .u64 (s2.fa : Nat)) (.int .u64 (s2.go : Nat)) 64
          have M3 := o3.sm.later a3
          have n3 := o3.h.nil
          have X1 := X1.later a3
          have P1a := P1
          have P1 := P1.later a3
          have b_4 := b_3.trans (a3.mono b_3.size)
          have pz := World.block_lt_of_cell? _ _ P1a.c0
          clear X1s M1s M1 o1 HM1 o3 hb_w3 aS
          obtain ⟨y0, y1, y2, y3, y4, y5, y6, y7, yf⟩ := id Y3
          obtain ⟨p0, p1, pf⟩ := id P1a
          go_wp2_with fail
          go_at_call 43
          refine (HN.out _ _ _ _ (hz.later (by exact b_4)) (by exact M3) n3).mono ?_
          rintro e w5 ⟨v5, O5, c5, rfl, o5, hb_w5⟩
          clear p0 p1 pf y0 y1 y2 y3 y4 y5 y6 y7 yf
          have X5 := X1.later hb_w5
          have b_5 := b_4.trans (hb_w5.mono b_4.size)
          have X6 := X5.all (.slice v5.A s3.h.ws.length v5.ca) (.int .i64 s3.h.n) (.slice v5.U s3.h.us.length v5.cu) (.slice v5.V s3.h.l.length v5.cv) (.int .i64 s3.n) (.slice O5 s3.os.length c5) (.int .u64 (s3.fa : Nat)) (.int .u64 (s3.go : Nat))
          have w5l : w2.heap.size < (w3.alloc (.cells #[.slice v3.A s2.h.ws.length v3.ca, .int .i64 s2.h.n, .slice v3.U s2.h.us.length v3.cu, .slice v3.V s2.h.l.length v3.cv, .int .i64 s2.n, .slice O3 s2.os.length c3, .int .u64 (s2.fa : Nat), .int .u64 (s2.go : Nat)] 64)).heap.size := X1.lt
          have o6 := (o5.over8 (g := w2.heap.size) w5l (.slice v5.A s3.h.ws.length v5.ca) (.int .i64 s3.h.n) (.slice v5.U s3.h.us.length v5.cu) (.slice v5.V s3.h.l.length v5.cv) (.int .i64 s3.n) (.slice O5 s3.os.length c5) (.int .u64 (s3.fa : Nat)) (.int .u64 (s3.go : Nat))).mono b_4.size
          have b_6 := below8 (g := w2.heap.size) b_5 w2l (.slice v5.A s3.h.ws.length v5.ca) (.int .i64 s3.h.n) (.slice v5.U s3.h.us.length v5.cu) (.slice v5.V s3.h.l.length v5.cv) (.int .i64 s3.n) (.slice O5 s3.os.length c5) (.int .u64 (s3.fa : Nat)) (.int .u64 (s3.go : Nat))
          obtain ⟨x0, x1, x2, x3, x4, x5, x6, x7, xf⟩ := id X5
          have zz5 := X5.lt
          clear X1 P1 P1a Y3 M3 n3 b_4 b_3 a3 o5 hb_w5
          go_wp2_with fail
          generalize hW6 : ((((((((w5.setCell ⟨w2.heap.size, 0, none⟩ (.slice v5.A s3.h.ws.length v5.ca)).setCell ⟨w2.heap.size, 1, none⟩ (.int .i64 s3.h.n)).setCell ⟨w2.heap.size, 2, none⟩ (.slice v5.U s3.h.us.length v5.cu)).setCell ⟨w2.heap.size, 3, none⟩ (.slice v5.V s3.h.l.length v5.cv)).setCell ⟨w2.heap.size, 4, none⟩ (.int .i64 s3.n)).setCell ⟨w2.heap.size, 5, none⟩ (.slice O5 s3.os.length c5)).setCell ⟨w2.heap.size, 6, none⟩ (.int .u64 (s3.fa : Nat))).setCell ⟨w2.heap.size, 7, none⟩ (.int .u64 (s3.go : Nat))) = W6 at *
          have sW6 : W6.heap.size = w5.heap.size := by rw [← hW6]; exact size8 _ _ _ _ _ _ _ _ _ _
          clear hW6 X5 x0 x1 x2 x3 x4 x5 x6 x7 xf
          have M6 := o6.sm
          have n6 := o6.h.nil
          have b_6s := b_6.size
          go_at_call 61
          refine (HCO.out _ _ _ (by exact M6.o)).mono ?_
          rintro e w7 ⟨rfl, hb_w7⟩
          have X7 := X6.later hb_w7
          have o7 := o6.later hb_w7
          have M7 := M6.later hb_w7
          have b_7 := b_6.trans (hb_w7.mono b_6s)
          clear X6 o6 M6 b_6 hb_w7
          obtain ⟨x0, x1, x2, x3, x4, x5, x6, x7, xf⟩ := id X7
          go_wp2_with fail
          go_at_call 53
          refine (HTH.out _ _ _ _ (hz.later (by exact b_7)) (by exact M7) n6).mono ?_
          rintro e w8 ⟨rfl, hb_w8⟩
          have b_8 := b_7.trans (hb_w8.mono b_7.size)
          have X8 := X7.later hb_w8
          have o8 := o7.later hb_w8
          have M8 := M7.later hb_w8
          clear X7 o7 M7 hb_w8 x0 x1 x2 x3 x4 x5 x6 x7 xf
          obtain ⟨x0, x1, x2, x3, x4, x5, x6, x7, xf⟩ := id X8
          go_wp2_with fail
          go_at_call 62
          refine (HFR.out _ _ _ (by exact M8.h.u)).mono ?_
          rintro e w9 ⟨rfl, hb_w9⟩
          have b_9 := b_8.trans (hb_w9.mono b_8.size)
          have X9 := X8.later hb_w9
          have o9 := o8.later hb_w9
          have M9 := M8.later hb_w9
          have z9 := X9.lt
          have HX9 := Lib.hid X9
          have HO9 := Lib.hid o9
          have HM9 := Lib.hid M9
          clear X8 o8 M8 o9 M9 hb_w9 x0 x1 x2 x3 x4 x5 x6 x7 xf
          obtain ⟨x0, x1, x2, x3, x4, x5, x6, x7, xf⟩ := id X9
          clear X9
          go_wp2
          go_roundw
          case rel => exact ⟨k + 1, v5, O5, c5, s3, by go_num, by omega, by omega, HOK3, HCN3, HX9.out, HO9.out, HM9, z9, b_9⟩
          case measure => simp [intOf]; try omega
      · obtain rfl : k = xs.length := by omega
        go_wp2
        go_ret
        exact ⟨rfl, b_wr⟩
end Go.Proofs.YtkfmbhlefppkhaaGreatDoor
