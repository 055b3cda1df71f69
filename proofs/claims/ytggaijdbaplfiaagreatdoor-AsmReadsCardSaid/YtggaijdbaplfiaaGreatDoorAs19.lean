/- Words between bytes of a kind; contracts of strings.Split, package asm: parse. -/
import Derived.Test.YtggaijdbaplfiaaGreatDoorAs18
namespace Go.Proofs.YtggaijdbaplfiaaGreatDoor
open Go.RowKit
set_option linter.unusedVariables false
set_option linter.unusedSimpArgs false
theorem splitK_le (sep : List UInt8) : ∀ (k : Nat) (s x : List UInt8), x ∈ Lib.splitK sep 0 k s → x.length ≤ s.length
  | 0, s, x, h => by
    simp only [Lib.splitK, List.mem_singleton] at h
    subst h
    exact Nat.le_refl _
  | k + 1, s, x, h => by
    rw [Lib.splitK] at h
    split at h
    · rw [List.mem_singleton] at h
      subst h
      exact Nat.le_refl _
    · rw [List.mem_cons] at h
      rcases h with rfl | h
      · simp only [List.length_take]; omega
      · have := splitK_le sep k _ x h
        simp only [List.length_drop] at this
        omega
/-- a text's parts between bytes of a kind -/
def partsB (c : UInt8) (s : ByteArray) : List ByteArray := Lib.splitB ⟨#[c]⟩ 0 (Lib.countB s ⟨#[c]⟩) s
theorem partsB_data (c : UInt8) (s : ByteArray) : (partsB c s).map (fun x => x.data.toList) = Lib.split s.data.toList [c] := Lib.splitB_data ⟨#[c]⟩ 0 _ s
theorem partsB_len (c : UInt8) (s : ByteArray) : (partsB c s).length = Lib.countB s ⟨#[c]⟩ + 1 := Lib.splitB_all ⟨#[c]⟩ (Nat.le_refl 1) 0 _ s rfl
theorem partsB_le (c : UInt8) (s : ByteArray) (k : Nat) (hk : k < (partsB c s).length) : (partsB c s)[k].size ≤ s.size := by
  have h1 : (partsB c s)[k].data.toList ∈ (partsB c s).map (fun x => x.data.toList) := List.mem_map.2 ⟨_, List.getElem_mem hk, rfl⟩
  rw [partsB_data] at h1
  have h2 := splitK_le _ _ _ _ h1
  have e1 : (partsB c s)[k].data.toList.length = (partsB c s)[k].size := Array.length_toList
  have e2 : s.data.toList.length = s.size := Array.length_toList
  omega
theorem parts_drop (c : UInt8) (s : ByteArray) (k : Nat) (hk : k < (partsB c s).length) : (Lib.split s.data.toList [c]).drop k = (partsB c s)[k].data.toList :: (Lib.split s.data.toList [c]).drop (k + 1) := by
  rw [← partsB_data, List.drop_eq_getElem_cons (by simpa using hk)]
  simp
theorem parts_length (c : UInt8) (s : ByteArray) : (Lib.split s.data.toList [c]).length = (partsB c s).length := by
  rw [← partsB_data, List.length_map]
theorem partsB_most (c : UInt8) (s : ByteArray) : (partsB c s).length ≤ s.size + 1 := by
  rw [partsB_len]
  have := Lib.countB_le ⟨#[c]⟩ (Nat.le_refl 1) s.size s (Nat.le_refl _)
  omega
def cmv (x : In) (gl : List UInt8) (ln : Int) : Value := .agg #[.int .u8 x.kd, .int .u8 x.op, .int .i64 x.oa, .int .i64 x.ob, .int .i64 x.fd, .int .i64 x.n, .int .u64 x.m, .int .u64 x.w, .int .i64 x.a, .int .i64 x.b, .int .i64 x.to, .string (bs gl), .int .i64 ln]
theorem res_cm2 {fn : Func} {p u : Tmp} (h : fn.results = #[.cell p 74, .tmp u]) {tmps : Array Value} {w : World} {g : Nat} {x : In} {gl : List UInt8} {ln : Int} (hp : tmps.getD p undef = .pointer (some ⟨g, 0, none⟩)) (c : Cm13 w g x gl ln) : (results fn tmps).run Tryz.prog w = .ok (.tuple #[cmv x gl ln, tmps.getD u undef]) w := by
  obtain ⟨⟨h0, h1, h2, h3, h4, h5, h6, h7, h8, h9, h10⟩, h11, h12⟩ := c
  simp only [Nat.zero_add] at h0 h1 h2 h3 h4 h5 h6 h7 h8 h9 h10
  rw [results_cell_tmp h, hp]
  simp [go_sem, Result.andThen, h0, h1, h2, h3, h4, h5, h6, h7, h8, h9, h10, h11, h12, asAddr, cmv]
theorem Cm13.set13 {W : World} {g : Nat} {x0 : In} {gl0 : List UInt8} {ln0 : Int} (x : In) (gl : List UInt8) (ln : Int) (h : Cm13 W g x0 gl0 ln0) : Cm13 (((((((((((((W.setCell ⟨g, 0, none⟩ (.int .u8 x.kd)).setCell ⟨g, 1, none⟩ (.int .u8 x.op)).setCell ⟨g, 2, none⟩ (.int .i64 x.oa)).setCell ⟨g, 3, none⟩ (.int .i64 x.ob)).setCell ⟨g, 4, none⟩ (.int .i64 x.fd)).setCell ⟨g, 5, none⟩ (.int .i64 x.n)).setCell ⟨g, 6, none⟩ (.int .u64 x.m)).setCell ⟨g, 7, none⟩ (.int .u64 x.w)).setCell ⟨g, 8, none⟩ (.int .i64 x.a)).setCell ⟨g, 9, none⟩ (.int .i64 x.b)).setCell ⟨g, 10, none⟩ (.int .i64 x.to)).setCell ⟨g, 11, none⟩ (.string (bs gl))).setCell ⟨g, 12, none⟩ (.int .i64 ln)) g x gl ln := by
  obtain ⟨⟨h0, h1, h2, h3, h4, h5, h6, h7, h8, h9, h10⟩, h11, h12⟩ := h
  simp only [Nat.zero_add] at h0 h1 h2 h3 h4 h5 h6 h7 h8 h9 h10
  refine ⟨⟨?_, ?_, ?_, ?_, ?_, ?_, ?_, ?_, ?_, ?_, ?_⟩, ?_, ?_⟩ <;> simp [go_sem, h0, h1, h2, h3, h4, h5, h6, h7, h8, h9, h10, h11, h12]
theorem below_set13 {B g : Nat} {W0 W : World} (x : In) (gl : List UInt8) (ln : Int) (hb : Below B W0 W) (hg : B ≤ g) : Below B W0 (((((((((((((W.setCell ⟨g, 0, none⟩ (.int .u8 x.kd)).setCell ⟨g, 1, none⟩ (.int .u8 x.op)).setCell ⟨g, 2, none⟩ (.int .i64 x.oa)).setCell ⟨g, 3, none⟩ (.int .i64 x.ob)).setCell ⟨g, 4, none⟩ (.int .i64 x.fd)).setCell ⟨g, 5, none⟩ (.int .i64 x.n)).setCell ⟨g, 6, none⟩ (.int .u64 x.m)).setCell ⟨g, 7, none⟩ (.int .u64 x.w)).setCell ⟨g, 8, none⟩ (.int .i64 x.a)).setCell ⟨g, 9, none⟩ (.int .i64 x.b)).setCell ⟨g, 10, none⟩ (.int .i64 x.to)).setCell ⟨g, 11, none⟩ (.string (bs gl))).setCell ⟨g, 12, none⟩ (.int .i64 ln)) := by
  iterate 13 (refine Below.setCell ?_ hg _)
  exact hb
theorem Cm13.zero13 {W : World} {g : Nat} {x0 : In} {gl0 : List UInt8} {ln0 : Int} (h : Cm13 W g x0 gl0 ln0) : Cm13 (((((((((((((W.setCell ⟨g, 0, none⟩ (.int .u8 0)).setCell ⟨g, 1, none⟩ (.int .u8 0)).setCell ⟨g, 2, none⟩ (.int .i64 0)).setCell ⟨g, 3, none⟩ (.int .i64 0)).setCell ⟨g, 4, none⟩ (.int .i64 0)).setCell ⟨g, 5, none⟩ (.int .i64 0)).setCell ⟨g, 6, none⟩ (.int .u64 0)).setCell ⟨g, 7, none⟩ (.int .u64 0)).setCell ⟨g, 8, none⟩ (.int .i64 0)).setCell ⟨g, 9, none⟩ (.int .i64 0)).setCell ⟨g, 10, none⟩ (.int .i64 0)).setCell ⟨g, 11, none⟩ (.string ⟨#[]⟩)).setCell ⟨g, 12, none⟩ (.int .i64 0)) g in0 [] 0 := by
  obtain ⟨⟨h0, h1, h2, h3, h4, h5, h6, h7, h8, h9, h10⟩, h11, h12⟩ := h
  simp only [Nat.zero_add] at h0 h1 h2 h3 h4 h5 h6 h7 h8 h9 h10
  refine ⟨⟨?_, ?_, ?_, ?_, ?_, ?_, ?_, ?_, ?_, ?_, ?_⟩, ?_, ?_⟩ <;> simp [go_sem, h0, h1, h2, h3, h4, h5, h6, h7, h8, h9, h10, h11, h12, in0, bs]
theorem below_zero13 {B g : Nat} {W0 W : World} (hb : Below B W0 W) (hg : B ≤ g) : Below B W0 (((((((((((((W.setCell ⟨g, 0, none⟩ (.int .u8 0)).setCell ⟨g, 1, none⟩ (.int .u8 0)).setCell ⟨g, 2, none⟩ (.int .i64 0)).setCell ⟨g, 3, none⟩ (.int .i64 0)).setCell ⟨g, 4, none⟩ (.int .i64 0)).setCell ⟨g, 5, none⟩ (.int .i64 0)).setCell ⟨g, 6, none⟩ (.int .u64 0)).setCell ⟨g, 7, none⟩ (.int .u64 0)).setCell ⟨g, 8, none⟩ (.int .i64 0)).setCell ⟨g, 9, none⟩ (.int .i64 0)).setCell ⟨g, 10, none⟩ (.int .i64 0)).setCell ⟨g, 11, none⟩ (.string ⟨#[]⟩)).setCell ⟨g, 12, none⟩ (.int .i64 0)) := by
  iterate 13 (refine Below.setCell ?_ hg _)
  exact hb
theorem Cm13.new0 (w : World) (t : TypeId) : Cm13 (w.alloc (.cells #[.int .u8 0, .int .u8 0, .int .i64 0, .int .i64 0, .int .i64 0, .int .i64 0, .int .u64 0, .int .u64 0, .int .i64 0, .int .i64 0, .int .i64 0, .string ⟨#[]⟩, .int .i64 0] t)) w.heap.size in0 [] 0 := by
  refine ⟨⟨?_, ?_, ?_, ?_, ?_, ?_, ?_, ?_, ?_, ?_, ?_⟩, ?_, ?_⟩ <;> simp [go_sem, in0, bs]
theorem Cm13.newB (w : World) (x : In) (t : TypeId) : Cm13 (w.alloc (.cells #[.int .u8 x.kd, .int .u8 x.op, .int .i64 x.oa, .int .i64 x.ob, .int .i64 x.fd, .int .i64 x.n, .int .u64 x.m, .int .u64 x.w, .int .i64 x.a, .int .i64 x.b, .int .i64 x.to, .string ⟨#[]⟩, .int .i64 0] t)) w.heap.size x [] 0 := by
  refine ⟨⟨?_, ?_, ?_, ?_, ?_, ?_, ?_, ?_, ?_, ?_, ?_⟩, ?_, ?_⟩ <;> simp [go_sem, bs]
theorem Cm13.keepG {w w' : World} {G g : Nat} {x : In} {gl : List UInt8} {ln : Int} (h : Cm13 w g x gl ln) (hb : Below G w w') (hg : g < G) : Cm13 w' g x gl ln :=
  ⟨h.i.below hb hg, ((bcell hb).1 _ _ hg).trans h.c11, ((bcell hb).1 _ _ hg).trans h.c12⟩
theorem fz_keepG {w w' : World} {G g : Nat} (h : ∀ o, w.frozen? ⟨g, o, none⟩ = false) (hb : Below G w w') (hg : g < G) : ∀ o, w'.frozen? ⟨g, o, none⟩ = false := fun o => (hb.frozen (p := ⟨g, o, none⟩) hg).trans (h o)
theorem parseW_none {ws : List (List UInt8)} (h : fnamed (ws.headD []) = none) : parseW ws = none := by unfold parseW; rw [h]
theorem parseW_len {ws : List (List UInt8)} {f : Fm} (h : fnamed (ws.headD []) = some f) (hn : ¬ ws.length = f.os.length + 1) : parseW ws = none := by unfold parseW; rw [h]; simp only; rw [if_neg hn]
theorem parseW_no {ws : List (List UInt8)} {f : Fm} (h : fnamed (ws.headD []) = some f) (hn : ws.length = f.os.length + 1) (ht : tellL f.os (ws.drop 1) (bare f, []) = none) : parseW ws = none := by unfold parseW; rw [h]; simp only; rw [if_pos hn, ht]
theorem parseW_yes {ws : List (List UInt8)} {f : Fm} {c : In × List UInt8} (h : fnamed (ws.headD []) = some f) (hn : ws.length = f.os.length + 1) (ht : tellL f.os (ws.drop 1) (bare f, []) = some c) : parseW ws = if Sh c.1.n c.1.m then some c else none := by unfold parseW; rw [h]; simp only; rw [if_pos hn, ht]
def ParsR (w : World) (r : Option (In × List UInt8)) (e : Ending) (w' : World) : Prop := e = .returned (.tuple #[cmv (r.getD (in0, [])).1 (r.getD (in0, [])).2 0, .bool r.isSome]) ∧ Below w.heap.size w w'
theorem parsR_none {w w' : World} {r : Option (In × List UInt8)} (h : r = none) {v : Value} (hv : v = .bool false) (hb : Below w.heap.size w w') : ParsR w r (.returned (.tuple #[cmv in0 [] 0, v])) w' := by
  subst h hv
  exact ⟨rfl, hb⟩
theorem parsR_some {w w' : World} {r : Option (In × List UInt8)} {x : In} {gl : List UInt8} (h : r = some (x, gl)) {v : Value} (hv : v = .bool true) (hb : Below w.heap.size w w') : ParsR w r (.returned (.tuple #[cmv x gl 0, v])) w' := by
  subst h hv
  exact ⟨rfl, hb⟩
theorem wrap_len (n m : Nat) (hn : n ≤ 100000) : IntKind.i64.wrap ((n : Int) + 1) = (n : Int) + 1 := by unfold IntKind.wrap; simp [IntKind.signed, IntKind.bits]; omega
section
variable {w : World}
theorem ssplit_any (c : UInt8) (s : ByteArray) (hs : s.size ≤ 65536) (hL : Lw w) : Calls Tryz.prog 20 #[.string s, .string ⟨#[c]⟩] w fun e w' => e = .returned (.slice (some ⟨w.heap.size, 0, none⟩) (partsB c s).length (partsB c s).length) ∧ (∀ k (hk : k < (partsB c s).length), w'.cell? ⟨w.heap.size, k, none⟩ = some (.string (partsB c s)[k])) ∧ w.heap.size < w'.heap.size ∧ Below w.heap.size w w' := by
  obtain ⟨m, hm⟩ := hL.mx
  refine (L_strings_Split s ⟨#[c]⟩ m w (by omega) hm (Nat.le_refl 1)).mono ?_
  rintro e w' ⟨rfl, rfl⟩
  refine ⟨by rw [partsB_len], fun k hk => ?_, by simp, Below.alloc (Below.refl _ _) (Nat.le_refl _) _⟩
  show (w.alloc (.cells ((partsB c s).map Value.string).toArray 9)).cell? _ = _
  rw [cell_of_row _ _ k _ _ _ (heap_alloc_new w (.cells ((partsB c s).map Value.string).toArray 9))]
  simp [hk]
theorem named_agg (s : ByteArray) (hL : Lw w) (f : Fm) (b : Bool) (hf : (fnamed s.data.toList).getD fm0 = f) (hb : (fnamed s.data.toList).isSome = b) : Calls Tryz.prog 69 #[.string s] w fun e w' => e = .returned (.tuple #[.agg #[.string (bs f.nm), .int .u8 f.kd, .int .u8 f.op, .int .i64 (opn f 0), .int .i64 (opn f 1), .int .i64 (opn f 2)], .bool b]) ∧ Below w.heap.size w w' := by
  subst hf hb
  exact named_any s hL
theorem hcheck_no {n : Int} {m : Nat} (h : ¬ Sh n m) :
    Calls Tryz.prog 56 #[.agg #[.int .i64 n, .int .u64 (m : Nat)]] w fun e w' => e = .returned (.int .i64 2) ∧ Below w.heap.size w w' := by
  by_cases h0 : n < 0
  · have hd : decide (n < 0) = true := decide_eq_true (by omega)
    clear h
    go_enter Tryz.func56, Tryz.ntmps56
    go_wp2
    go_ret
    exact ⟨rfl, (by repeat (first | exact Below.refl _ _ | assumption | (refine below_drewN ?_ _) | (refine Below.drew ?_) | (refine Below.alloc ?_ (by first | omega | (simp; omega) | simp) _) | (refine Below.setCell ?_ (by first | omega | (simp; omega) | simp) _) | (refine below_trans ?_ (by assumption) (by first | omega | (simp; omega) | simp))))⟩
  have hd : decide (n < 0) = false := decide_eq_false (by omega)
  by_cases h1 : 48 < n
  · have hd2 : decide (48 < n) = true := decide_eq_true (by omega)
    clear h
    go_enter Tryz.func56, Tryz.ntmps56
    go_wp2
    go_ret
    exact ⟨rfl, (by repeat (first | exact Below.refl _ _ | assumption | (refine below_drewN ?_ _) | (refine Below.drew ?_) | (refine Below.alloc ?_ (by first | omega | (simp; omega) | simp) _) | (refine Below.setCell ?_ (by first | omega | (simp; omega) | simp) _) | (refine below_trans ?_ (by assumption) (by first | omega | (simp; omega) | simp))))⟩
  have hd2 : decide (48 < n) = false := decide_eq_false (by omega)
  have hd3 : (((m : Nat) : Int) / 2 ^ n.toNat != 0) = true := by
    rw [shr_form, Nat.shiftRight_eq_div_pow, bne_iff_ne]
    intro hz
    exact h ⟨by omega, by omega, hz⟩
  clear h
  go_enter Tryz.func56, Tryz.ntmps56
  go_wp2
  go_ret
  exact ⟨rfl, (by repeat (first | exact Below.refl _ _ | assumption | (refine below_drewN ?_ _) | (refine Below.drew ?_) | (refine Below.alloc ?_ (by first | omega | (simp; omega) | simp) _) | (refine Below.setCell ?_ (by first | omega | (simp; omega) | simp) _) | (refine below_trans ?_ (by assumption) (by first | omega | (simp; omega) | simp))))⟩
set_option maxRecDepth 100000 in
set_option maxHeartbeats 16000000 in
theorem parse_any (s : ByteArray) (hs : s.size ≤ 65536) (hL : Lw w) : Calls Tryz.prog 40 #[.string s] w fun e w' => ParsR w (parseS s.data.toList) e w' := by
  have HSP := Lib.hid fun (W : World) hL => ssplit_any (w := W) 32 s hs hL
  have hlen := parts_length 32 s
  have hmost := partsB_most 32 s
  have hpos : 0 < (partsB 32 s).length := by rw [partsB_len]; omega
  have HDR := Lib.hid (parts_drop 32 s)
  have HLE := Lib.hid (partsB_le 32 s)
  have hpw : parseS s.data.toList = parseW (Lib.split s.data.toList [32]) := rfl
  generalize parseS s.data.toList = PR at *
  have hhd : (Lib.split s.data.toList [32]).headD [] = (partsB 32 s)[0].data.toList := by
    have := HDR.out 0 hpos
    rw [List.drop_zero] at this
    rw [this]
    rfl
  generalize (Lib.split s.data.toList [32]) = WS at *
  generalize partsB 32 s = wsB at *
  obtain ⟨b, f, hb, hf⟩ : ∃ (b : Bool) (f : Fm), (fnamed (wsB[0]'hpos).data.toList).isSome = b ∧ (fnamed (wsB[0]'hpos).data.toList).getD fm0 = f := ⟨_, _, rfl, rfl⟩
  have HNA := Lib.hid fun (W : World) hL => named_agg (w := W) (wsB[0]'hpos) hL f b hf hb
  have hwf : WfF f := by have := fnamed_wf (wsB[0]'hpos).data.toList; rw [hf] at this; exact this
  have hk1 : (0 : Int) < (wsB.length : Int) := by omega
  cases hfn : fnamed (wsB[0]'hpos).data.toList with
  | none =>
    obtain rfl : b = false := by rw [← hb, hfn]; rfl
    have HPR2 : Hid (PR = none) := Lib.hid (hpw.trans (parseW_none (by rw [hhd]; exact hfn)))
    clear hf hb hfn hwf hpw hhd
    obtain ⟨w0s, hw0s⟩ : ∃ t, wsB[0]'hpos = t := ⟨_, rfl⟩
    rw [hw0s] at HNA
    have HW0 := Lib.hid hw0s
    clear hw0s
    go_enter Tryz.func40, Tryz.ntmps40
    go_wp2_with fail
    go_at_call 20
    refine (HSP.out _ (hL.later (by repeat (first | exact Below.refl _ _ | assumption | (refine below_drewN ?_ _) | (refine Below.drew ?_) | (refine Below.alloc ?_ (by first | omega | (simp; omega) | simp) _) | (refine Below.setCell ?_ (by first | omega | (simp; omega) | simp) _) | (refine below_trans ?_ (by assumption) (by first | omega | (simp; omega) | simp)))))).mono ?_
    rintro e w1 ⟨rfl, hcl, hsz1, hb_w1⟩
    obtain ⟨hc_w1, hf_w1⟩ := bcell hb_w1; have hz_w1_w_0 : w.heap.size < w1.heap.size := (by have hzz := hb_w1.size; (try simp only [World.size_alloc, World.size_setCell, World.size_drew, World.heap_drewN] at hzz); omega); have hs_w1 := hb_w1.size; (try simp only [World.size_alloc, World.size_setCell, World.size_drew, World.heap_drewN] at hs_w1)
    have hx0 := hcl 0 hpos
    rw [HW0.out] at hx0
    have b1 : Below w.heap.size w w1 := (by repeat (first | exact Below.refl _ _ | assumption | (refine below_drewN ?_ _) | (refine Below.drew ?_) | (refine Below.alloc ?_ (by first | omega | (simp; omega) | simp) _) | (refine Below.setCell ?_ (by first | omega | (simp; omega) | simp) _) | (refine below_trans ?_ (by assumption) (by first | omega | (simp; omega) | simp))))
    have hR1 : Hid (Cm13 w1 w.heap.size in0 [] 0) := Lib.hid ((Cm13.new0 w 74).later hb_w1)
    have hZ1 : Hid (∀ o, w1.frozen? ⟨w.heap.size, o, none⟩ = false) := Lib.hid (fz_later (fz_new w #[.int .u8 0, .int .u8 0, .int .i64 0, .int .i64 0, .int .i64 0, .int .i64 0, .int .u64 0, .int .u64 0, .int .i64 0, .int .i64 0, .int .i64 0, .string ⟨#[]⟩, .int .i64 0] 74) hb_w1 (by simp))
    simp only [World.size_alloc] at hx0 hsz1
    clear hcl
    go_wp2_with fail
    go_at_call 69
    refine (HNA.out _ (hL.later (by repeat (first | exact Below.refl _ _ | assumption | (refine below_drewN ?_ _) | (refine Below.drew ?_) | (refine Below.alloc ?_ (by first | omega | (simp; omega) | simp) _) | (refine Below.setCell ?_ (by first | omega | (simp; omega) | simp) _) | (refine below_trans ?_ (by assumption) (by first | omega | (simp; omega) | simp)))))).mono ?_
    rintro e w2 ⟨rfl, hb_w2⟩
    obtain ⟨hc_w2, hf_w2⟩ := bcell hb_w2; have hs_w2 := hb_w2.size; (try simp only [World.size_alloc, World.size_setCell, World.size_drew, World.heap_drewN] at hs_w2)
    have b2 : Below w.heap.size w w2 := (by repeat (first | exact Below.refl _ _ | assumption | (refine below_drewN ?_ _) | (refine Below.drew ?_) | (refine Below.alloc ?_ (by first | omega | (simp; omega) | simp) _) | (refine Below.setCell ?_ (by first | omega | (simp; omega) | simp) _) | (refine below_trans ?_ (by assumption) (by first | omega | (simp; omega) | simp))))
    have hR2 := hR1.out.later hb_w2
    have hZ2 := fz_later hZ1.out hb_w2 hR1.out.lt
    have HR2 := Lib.hid hR2
    have hg2 := hR2.lt
    obtain ⟨⟨c0, c1, c2, c3, c4, c5, c6, c7, c8, c9, c10⟩, c11, c12⟩ := hR2
    simp only [Nat.zero_add, in0] at c0 c1 c2 c3 c4 c5 c6 c7 c8 c9 c10
    have z0 := hZ2 0
    have z1 := hZ2 1
    have z2 := hZ2 2
    have z3 := hZ2 3
    have z4 := hZ2 4
    have z5 := hZ2 5
    have z6 := hZ2 6
    have z7 := hZ2 7
    have z8 := hZ2 8
    have z9 := hZ2 9
    have z10 := hZ2 10
    have z11 := hZ2 11
    have z12 := hZ2 12
    clear hZ2
    go_wp2
    exact bodyPost_ret (res_cm2 rfl rfl ((Cm13.zero13 HR2.out).later (Below.alloc (Below.refl _ _) (Nat.le_refl _) _))) rfl (parsR_none HPR2.out rfl (Below.alloc (below_zero13 b2 (Nat.le_refl _)) (by simp; omega) _))
  | some f' =>
    obtain rfl : f' = f := by rw [← hf, hfn]; rfl
    obtain rfl : b = true := by rw [← hb, hfn]; rfl
    have hfh : fnamed (WS.headD []) = some f' := by rw [hhd]; exact hfn
    clear hf hb hfn hhd
    have HLI := Lib.hid fun (w : World) => list_agg (w := w) f' hwf
    have hl3 := hwf.1
    have hop : Hid (∀ k, k < f'.os.length → 1 ≤ f'.os.getD k 0 ∧ f'.os.getD k 0 ≤ 9) := Lib.hid fun k hk => by
      rw [List.getD_eq_getElem?_getD, List.getElem?_eq_getElem hk]
      exact hwf.2 _ (List.getElem_mem hk)
    have hwl := wrap_len f'.os.length 0 (by omega)
    have hwl2 : IntKind.i64.wrap (1 + (f'.os.length : Int)) = 1 + (f'.os.length : Int) := by rw [Int.add_comm]; exact hwl
    obtain ⟨w0s, hw0s⟩ : ∃ t, wsB[0]'hpos = t := ⟨_, rfl⟩
    rw [hw0s] at HNA
    have HW0 := Lib.hid hw0s
    clear hw0s hwf
    by_cases hn : WS.length = f'.os.length + 1
    · have hn2 : wsB.length = f'.os.length + 1 := by omega
      have e1 : ((wsB.length : Int) == 1 + (f'.os.length : Int)) = true := by simp; omega
      have e2 : ((wsB.length : Int) != 1 + (f'.os.length : Int)) = false := by simp [bne, e1]
      have HBA := Lib.hid fun (w : World) => bare_agg (w := w) f'
      have HDO : Hid (∀ k, k < f'.os.length → f'.os.drop k = f'.os.getD k 0 :: f'.os.drop (k + 1)) := Lib.hid fun k hk => by
        rw [List.drop_eq_getElem_cons hk]
        simp [hk]
      have HWK : Hid (∀ k (hk : 1 + k < wsB.length), (WS.drop 1).drop k = wsB[1 + k].data.toList :: (WS.drop 1).drop (k + 1)) := Lib.hid fun k hk => by
        rw [List.drop_drop, List.drop_drop, HDR.out (1 + k) hk, Nat.add_assoc]
      obtain ⟨RES, hRES⟩ : ∃ R, tellL f'.os (WS.drop 1) (bare f', []) = R := ⟨_, rfl⟩
      have HRS := Lib.hid hRES
      have HPN : Hid (RES = none → PR = none) := Lib.hid fun h => hpw.trans (parseW_no hfh hn (by rw [hRES]; exact h))
      have HPY : Hid (∀ c, RES = some c → PR = if Sh c.1.n c.1.m then some c else none) := Lib.hid fun c h => hpw.trans (parseW_yes hfh hn (by rw [hRES]; exact h))
      clear hRES hn hlen hwl hmost hpw hfh
      go_enter Tryz.func40, Tryz.ntmps40
      go_wp2_with fail
      go_at_call 20
      refine (HSP.out _ (hL.later (by repeat (first | exact Below.refl _ _ | assumption | (refine below_drewN ?_ _) | (refine Below.drew ?_) | (refine Below.alloc ?_ (by first | omega | (simp; omega) | simp) _) | (refine Below.setCell ?_ (by first | omega | (simp; omega) | simp) _) | (refine below_trans ?_ (by assumption) (by first | omega | (simp; omega) | simp)))))).mono ?_
      rintro e w1 ⟨rfl, hcl, hsz1, hb_w1⟩
      obtain ⟨hc_w1, hf_w1⟩ := bcell hb_w1; have hz_w1_w_0 : w.heap.size < w1.heap.size := (by have hzz := hb_w1.size; (try simp only [World.size_alloc, World.size_setCell, World.size_drew, World.heap_drewN] at hzz); omega); have hs_w1 := hb_w1.size; (try simp only [World.size_alloc, World.size_setCell, World.size_drew, World.heap_drewN] at hs_w1)
      have hx0 := hcl 0 hpos
      rw [HW0.out] at hx0
      have b1 : Below w.heap.size w w1 := (by repeat (first | exact Below.refl _ _ | assumption | (refine below_drewN ?_ _) | (refine Below.drew ?_) | (refine Below.alloc ?_ (by first | omega | (simp; omega) | simp) _) | (refine Below.setCell ?_ (by first | omega | (simp; omega) | simp) _) | (refine below_trans ?_ (by assumption) (by first | omega | (simp; omega) | simp))))
      have hR1 : Hid (Cm13 w1 w.heap.size in0 [] 0) := Lib.hid ((Cm13.new0 w 74).later hb_w1)
      have hZ1 : Hid (∀ o, w1.frozen? ⟨w.heap.size, o, none⟩ = false) := Lib.hid (fz_later (fz_new w #[.int .u8 0, .int .u8 0, .int .i64 0, .int .i64 0, .int .i64 0, .int .i64 0, .int .u64 0, .int .u64 0, .int .i64 0, .int .i64 0, .int .i64 0, .string ⟨#[]⟩, .int .i64 0] 74) hb_w1 (by simp))
      simp only [World.size_alloc] at hx0 hsz1 hcl
      have HCL := Lib.hid hcl
      clear hcl hc_w1 hf_w1
      go_wp2_with fail
      go_at_call 69
      refine (HNA.out _ (hL.later (by repeat (first | exact Below.refl _ _ | assumption | (refine below_drewN ?_ _) | (refine Below.drew ?_) | (refine Below.alloc ?_ (by first | omega | (simp; omega) | simp) _) | (refine Below.setCell ?_ (by first | omega | (simp; omega) | simp) _) | (refine below_trans ?_ (by assumption) (by first | omega | (simp; omega) | simp)))))).mono ?_
      rintro e w2 ⟨rfl, hb_w2⟩
      obtain ⟨hc_w2, hf_w2⟩ := bcell hb_w2; have hs_w2 := hb_w2.size; (try simp only [World.size_alloc, World.size_setCell, World.size_drew, World.heap_drewN] at hs_w2)
      have b2 : Below w.heap.size w w2 := (by repeat (first | exact Below.refl _ _ | assumption | (refine below_drewN ?_ _) | (refine Below.drew ?_) | (refine Below.alloc ?_ (by first | omega | (simp; omega) | simp) _) | (refine Below.setCell ?_ (by first | omega | (simp; omega) | simp) _) | (refine below_trans ?_ (by assumption) (by first | omega | (simp; omega) | simp))))
      have hs12 := hb_w2.size
      have hF2 := Fm6.new w2 f' 99
      go_wp2_with fail
      go_at_call 52
      refine (HLI.out _).mono ?_
      rintro e w3 ⟨A, cap, rfl, ⟨hor, hab0⟩, hb_w3⟩
      obtain ⟨hc_w3, hf_w3⟩ := bcell hb_w3; have hz_w3_w2_0 : w2.heap.size < w3.heap.size := (by have hzz := hb_w3.size; (try simp only [World.size_alloc, World.size_setCell, World.size_drew, World.heap_drewN] at hzz); omega); have hs_w3 := hb_w3.size; (try simp only [World.size_alloc, World.size_setCell, World.size_drew, World.heap_drewN] at hs_w3)
      have b3 : Below w.heap.size w w3 := (by repeat (first | exact Below.refl _ _ | assumption | (refine below_drewN ?_ _) | (refine Below.drew ?_) | (refine Below.alloc ?_ (by first | omega | (simp; omega) | simp) _) | (refine Below.setCell ?_ (by first | omega | (simp; omega) | simp) _) | (refine below_trans ?_ (by assumption) (by first | omega | (simp; omega) | simp))))
      have b13 : Below w1.heap.size w1 w3 := below_trans (below_trans (show Below w1.heap.size w1 w2 from hb_w2) (show Below w2.heap.size w2 (w2.alloc (.cells #[.string (bs f'.nm), .int .u8 f'.kd, .int .u8 f'.op, .int .i64 (opn f' 0), .int .i64 (opn f' 1), .int .i64 (opn f' 2)] 99)) from Below.alloc (Below.refl _ _) (Nat.le_refl _) _) hs12) hb_w3 (by simp; omega)
      have hF3 := hF2.later hb_w3
      obtain ⟨f0, f1, f2, f3, f4, f5⟩ := id hF3
      have hor3 := Lib.hid hor
      have hs3 := hF3.lt
      clear hor hab0 hF2 hc_w2 hf_w2 hc_w3 hf_w3
      go_wp2_with fail
      go_at_call 51
      refine (HBA.out _).mono ?_
      rintro e w4 ⟨rfl, hb_w4⟩
      obtain ⟨hc_w4, hf_w4⟩ := bcell hb_w4; have hs_w4 := hb_w4.size; (try simp only [World.size_alloc, World.size_setCell, World.size_drew, World.heap_drewN] at hs_w4)
      have b4 : Below w.heap.size w w4 := (by repeat (first | exact Below.refl _ _ | assumption | (refine below_drewN ?_ _) | (refine Below.drew ?_) | (refine Below.alloc ?_ (by first | omega | (simp; omega) | simp) _) | (refine Below.setCell ?_ (by first | omega | (simp; omega) | simp) _) | (refine below_trans ?_ (by assumption) (by first | omega | (simp; omega) | simp))))
      have hL4 := hL.later b4
      have b14 : Below w1.heap.size w1 w4 := below_trans b13 hb_w4 (by omega)
      have hC5 := Cm13.newB w4 (bare f') 74
      have hz5 := fz_new w4 #[.int .u8 (bare f').kd, .int .u8 (bare f').op, .int .i64 (bare f').oa, .int .i64 (bare f').ob, .int .i64 (bare f').fd, .int .i64 (bare f').n, .int .u64 (bare f').m, .int .u64 (bare f').w, .int .i64 (bare f').a, .int .i64 (bare f').b, .int .i64 (bare f').to, .string ⟨#[]⟩, .int .i64 0] 74
      have bA : Below w4.heap.size w4 (w4.alloc (.cells #[.int .u8 (bare f').kd, .int .u8 (bare f').op, .int .i64 (bare f').oa, .int .i64 (bare f').ob, .int .i64 (bare f').fd, .int .i64 (bare f').n, .int .u64 (bare f').m, .int .u64 (bare f').w, .int .i64 (bare f').a, .int .i64 (bare f').b, .int .i64 (bare f').to, .string ⟨#[]⟩, .int .i64 0] 74)) := Below.alloc (Below.refl _ _) (Nat.le_refl _) _
      have hR5 := (hR1.out.later b14).later bA
      have hZ5 := fz_later (fz_later hZ1.out b14 hR1.out.lt) bA (hR1.out.later b14).lt
      have hO5 := (hor3.out.later hb_w4).later bA
      have hg4 := (hR1.out.later b14).lt
      have hsz4 : w.heap.size + 1 < w4.heap.size := by have := hb_w4.size; omega
      have hCL4 : ∀ k (hk : k < wsB.length), w4.cell? ⟨w.heap.size + 1, k, none⟩ = some (.string wsB[k]) := fun k hk => (b14.cell (p := ⟨w.heap.size + 1, k, none⟩) (by show w.heap.size + 1 < w1.heap.size; omega)).trans (HCL.out k hk)
      have hAG : Hid (∀ a, A = some a → 0 < f'.os.length → a.block < w4.heap.size) := Lib.hid fun a ha h0 => by
        obtain ⟨b', off', e, hlt', _⟩ := (hor3.out.later hb_w4).at_ (by rw [opI_len]; exact h0)
        rw [ha] at e
        injection e with e
        subst e
        exact hlt'
      have HC5 := Lib.hid hC5
      have HZG5 := Lib.hid hz5
      have HR5 := Lib.hid hR5
      have HZ5 := Lib.hid hZ5
      have HO5 := Lib.hid hO5
      have HCL4 := Lib.hid hCL4
      have hbA : Hid (Below w4.heap.size w4 (w4.alloc (.cells #[.int .u8 (bare f').kd, .int .u8 (bare f').op, .int .i64 (bare f').oa, .int .i64 (bare f').ob, .int .i64 (bare f').fd, .int .i64 (bare f').n, .int .u64 (bare f').m, .int .u64 (bare f').w, .int .i64 (bare f').a, .int .i64 (bare f').b, .int .i64 (bare f').to, .string ⟨#[]⟩, .int .i64 0] 74))) := Lib.hid bA
      clear hC5 hz5 hR5 hZ5 hO5 hCL4 bA hR1 hZ1 hor3 HCL hb_w1 hb_w2 hb_w3 hb_w4 hc_w4 hf_w4 b13 f0 f1 f2 f3 f4 f5 hF3
      go_wp2_with fail
      go_loopw [37] (fun ii wr => ∃ (k : Nat) (x : In) (gl : List UInt8), ii = .int .i64 (k : Nat) ∧ k ≤ f'.os.length ∧ Hid (tellL (f'.os.drop k) ((WS.drop 1).drop k) (x, gl) = RES) ∧ Hid (Cm13 wr w4.heap.size x gl 0) ∧ Hid (∀ o, wr.frozen? ⟨w4.heap.size, o, none⟩ = false) ∧ Hid (Cm13 wr w.heap.size in0 [] 0) ∧ Hid (∀ o, wr.frozen? ⟨w.heap.size, o, none⟩ = false) ∧ Hid (ORow wr A f'.os) ∧ Hid (Below w4.heap.size w4 wr)) (fun ii _ => f'.os.length - (intOf ii).toNat)
      case atStart => exact ⟨0, bare f', [], rfl, Nat.zero_le _, HRS, HC5, HZG5, HR5, HZ5, HO5, hbA⟩
      case round =>
        clear HRS HC5 HZG5 HR5 HZ5 HO5 hbA
        obtain ⟨k, x, gl, rfl, hk, HT, HC, HFC, HR, HFR, HO, HB⟩ := hrel
        have hgr := HC.out.lt
        by_cases hlt : k < f'.os.length
        · obtain ⟨ab, aoff, rfl, hab, hac⟩ := HO.out.at_ (by rw [opI_len]; omega)
          have hak := hac k (by rw [opI_len]; exact hlt)
          rw [opI_get f'.os k hlt] at hak
          obtain ⟨p1, p9⟩ := hop.out k hlt
          have hw1k : 1 + k < wsB.length := by omega
          have hxk : wr.cell? ⟨w.heap.size + 1, 1 + k, none⟩ = some (.string wsB[1 + k]) := (HB.out.cell (p := ⟨w.heap.size + 1, 1 + k, none⟩) hsz4).trans (HCL4.out (1 + k) hw1k)
          have hsk := HLE.out (1 + k) hw1k
          have ht2 := HT.out
          rw [HDO.out k hlt, HWK.out k hw1k] at ht2
          have hk0 : (0 : Int) ≤ (k : Int) := by omega
          have hk1 : (k : Int) < (f'.os.length : Int) := by omega
          have i0 : (0 : Int) ≤ 1 + (k : Int) := by omega
          have i1 : 1 + (k : Int) < (wsB.length : Int) := by omega
          have hwk : IntKind.i64.wrap (1 + (k : Int)) = 1 + (k : Int) := by unfold IntKind.wrap; simp [IntKind.signed, IntKind.bits]; omega
          have htn : (1 + (k : Int)).toNat = 1 + k := by omega
          have hxk2 : wr.cell? ⟨w.heap.size + 1, (1 + (k : Int)).toNat, none⟩ = some (.string wsB[1 + k]) := by rw [htn]; exact hxk
          clear hac
          generalize f'.os.getD k 0 = o at *
          generalize wsB[1 + k] = sk at *
          have hsk2 : sk.size ≤ 65536 := by omega
          have HTE := Lib.hid fun (W : World) h1 h2 hL => tell_any (w := W) o p1 p9 sk hsk2 w4.heap.size x gl 0 h1 h2 hL
          have hLr := hL4.later HB.out
          have HT2 := Lib.hid ht2
          clear ht2 p1 p9 hsk hsk2
          go_wp2_with fail
          go_at_call 70
          refine (HTE.out _ HC.out HFC.out hLr).mono ?_
          rintro e w5 hT5
          unfold TellR at hT5
          cases hq : tellO o sk.data.toList (x, gl) with
          | none =>
            rw [hq] at hT5
            obtain ⟨rfl, hb5⟩ := hT5
            have hrs := HT2.out
            rw [tellL, hq] at hrs
            have HPR2 : Hid (PR = none) := Lib.hid (HPN.out hrs.symm)
            have hR5 := HR.out.keepG hb5 hg4
            have hZ5 := fz_keepG HFR.out hb5 hg4
            have HR5 := Lib.hid hR5
            have b5 : Below w.heap.size w w5 := b4.trans ((HB.out.trans hb5).mono (by omega))
            obtain ⟨⟨c0, c1, c2, c3, c4, c5, c6, c7, c8, c9, c10⟩, c11, c12⟩ := hR5
            simp only [Nat.zero_add, in0] at c0 c1 c2 c3 c4 c5 c6 c7 c8 c9 c10
            have z0 := hZ5 0
            have z1 := hZ5 1
            have z2 := hZ5 2
            have z3 := hZ5 3
            have z4 := hZ5 4
            have z5 := hZ5 5
            have z6 := hZ5 6
            have z7 := hZ5 7
            have z8 := hZ5 8
            have z9 := hZ5 9
            have z10 := hZ5 10
            have z11 := hZ5 11
            have z12 := hZ5 12
            clear hZ5 hrs hq
            go_wp2
            exact bodyPost_ret (res_cm2 rfl rfl (Cm13.zero13 HR5.out)) rfl (parsR_none HPR2.out rfl (below_zero13 b5 (Nat.le_refl _)))
          | some c =>
            rw [hq] at hT5
            obtain ⟨rfl, hC5, hF5, hb5⟩ := hT5
            have hrs := HT2.out
            rw [tellL, hq] at hrs
            obtain ⟨x', gl'⟩ := c
            have HT5 := Lib.hid hrs
            have HC5 := Lib.hid hC5
            have HF5 := Lib.hid hF5
            have HR5 := Lib.hid (HR.out.keepG hb5 hg4)
            have HZ5 := Lib.hid (fz_keepG HFR.out hb5 hg4)
            have HO5 : Hid (ORow w5 (some ⟨ab, aoff, none⟩) f'.os) := Lib.hid ⟨HO.out.in_, fun h0 => by
              obtain ⟨b', off', e, hlt', hc'⟩ := HO.out.at_ h0
              have hAb := hAG.out _ rfl (by omega)
              simp only [Option.some.injEq, Addr.mk.injEq, and_true] at e
              obtain ⟨rfl, rfl⟩ := e
              exact ⟨ab, aoff, rfl, by have := hb5.size; omega, fun i hi => (hb5.cell (p := ⟨ab, aoff + i, none⟩) hAb).trans (hc' i hi)⟩⟩
            have HB5 := Lib.hid (HB.out.trans hb5)
            clear hq hrs hC5 hF5 hb5
            go_wp2
            go_roundw
            case rel => exact ⟨k + 1, x', gl', by go_num, by omega, HT5, HC5, HF5, HR5, HZ5, HO5, HB5⟩
            case measure => simp [intOf]; omega
        · obtain rfl : k = f'.os.length := by omega
          have ht2 := HT.out
          rw [List.drop_length] at ht2
          have hre : RES = some (x, gl) := by rw [← ht2]; rfl
          have HP2 := Lib.hid (HPY.out _ hre)
          clear ht2 hre HT HPN HPY
          have b5 : Below w.heap.size w wr := b4.trans (HB.out.mono (by omega))
          obtain ⟨⟨c0, c1, c2, c3, c4, c5, c6, c7, c8, c9, c10⟩, c11, c12⟩ := id HC.out
          simp only [Nat.zero_add] at c0 c1 c2 c3 c4 c5 c6 c7 c8 c9 c10
          have hgb := HR.out
          by_cases hsh : Sh x.n x.m
          · have HP3 : Hid (PR = some (x, gl)) := Lib.hid (by rw [HP2.out]; exact if_pos hsh)
            have HS := Lib.hid fun (W : World) => hcheck_ok (w := W) hsh
            clear hsh hgb HP2
            go_wp2_with fail
            go_at_call 56
            refine (HS.out _).mono ?_
            rintro e w5 ⟨rfl, hb_w5⟩
            obtain ⟨hc_w5, hf_w5⟩ := bcell hb_w5; have hs_w5 := hb_w5.size; (try simp only [World.size_alloc, World.size_setCell, World.size_drew, World.heap_drewN] at hs_w5)
            have HC5 := HC.out.later hb_w5
            have HR5 := HR.out.later hb_w5
            have hZ5 := fz_later HFR.out hb_w5 HR.out.lt
            have b6 : Below w.heap.size w w5 := below_trans b5 hb_w5 b5.size
            have HR6 := Lib.hid HR5
            obtain ⟨⟨c0, c1, c2, c3, c4, c5, c6, c7, c8, c9, c10⟩, c11, c12⟩ := HC5
            obtain ⟨⟨d0, d1, d2, d3, d4, d5, d6, d7, d8, d9, d10⟩, d11, d12⟩ := HR5
            simp only [Nat.zero_add, in0] at c0 c1 c2 c3 c4 c5 c6 c7 c8 c9 c10 d0 d1 d2 d3 d4 d5 d6 d7 d8 d9 d10
            have z0 := hZ5 0
            have z1 := hZ5 1
            have z2 := hZ5 2
            have z3 := hZ5 3
            have z4 := hZ5 4
            have z5 := hZ5 5
            have z6 := hZ5 6
            have z7 := hZ5 7
            have z8 := hZ5 8
            have z9 := hZ5 9
            have z10 := hZ5 10
            have z11 := hZ5 11
            have z12 := hZ5 12
            clear hZ5
            go_wp2
            exact bodyPost_ret (res_cm2 rfl rfl (Cm13.set13 x gl 0 HR6.out)) rfl (parsR_some HP3.out rfl (below_set13 x gl 0 b6 (Nat.le_refl _)))
          · have HP3 : Hid (PR = none) := Lib.hid (by rw [HP2.out]; exact if_neg hsh)
            have HS := Lib.hid fun (W : World) => hcheck_no (w := W) hsh
            clear hgb HP2
            go_wp2_with fail
            go_at_call 56
            refine (HS.out _).mono ?_
            rintro e w5 ⟨rfl, hb_w5⟩
            obtain ⟨hc_w5, hf_w5⟩ := bcell hb_w5; have hs_w5 := hb_w5.size; (try simp only [World.size_alloc, World.size_setCell, World.size_drew, World.heap_drewN] at hs_w5)
            have HR5 := HR.out.later hb_w5
            have hZ5 := fz_later HFR.out hb_w5 HR.out.lt
            have b6 : Below w.heap.size w w5 := below_trans b5 hb_w5 b5.size
            have HR6 := Lib.hid HR5
            clear c11 c12
            obtain ⟨⟨c0, c1, c2, c3, c4, c5, c6, c7, c8, c9, c10⟩, c11, c12⟩ := HR5
            simp only [Nat.zero_add, in0] at c0 c1 c2 c3 c4 c5 c6 c7 c8 c9 c10
            have z0 := hZ5 0
            have z1 := hZ5 1
            have z2 := hZ5 2
            have z3 := hZ5 3
            have z4 := hZ5 4
            have z5 := hZ5 5
            have z6 := hZ5 6
            have z7 := hZ5 7
            have z8 := hZ5 8
            have z9 := hZ5 9
            have z10 := hZ5 10
            have z11 := hZ5 11
            have z12 := hZ5 12
            clear hZ5 hsh
            go_wp2
            exact bodyPost_ret (res_cm2 rfl rfl (Cm13.zero13 HR6.out)) rfl (parsR_none HP3.out rfl (below_zero13 b6 (Nat.le_refl _)))
    · have HPR2 : Hid (PR = none) := Lib.hid (hpw.trans (parseW_len hfh hn))
      have hn2 : ¬ wsB.length = f'.os.length + 1 := by omega
      have e1 : ((wsB.length : Int) == 1 + (f'.os.length : Int)) = false := by simp; omega
      have e2 : ((wsB.length : Int) != 1 + (f'.os.length : Int)) = true := by simp [bne, e1]
      clear hn hlen hwl hmost hn2 hpw hfh
      go_enter Tryz.func40, Tryz.ntmps40
      go_wp2_with fail
      go_at_call 20
      refine (HSP.out _ (hL.later (by repeat (first | exact Below.refl _ _ | assumption | (refine below_drewN ?_ _) | (refine Below.drew ?_) | (refine Below.alloc ?_ (by first | omega | (simp; omega) | simp) _) | (refine Below.setCell ?_ (by first | omega | (simp; omega) | simp) _) | (refine below_trans ?_ (by assumption) (by first | omega | (simp; omega) | simp)))))).mono ?_
      rintro e w1 ⟨rfl, hcl, hsz1, hb_w1⟩
      obtain ⟨hc_w1, hf_w1⟩ := bcell hb_w1; have hz_w1_w_0 : w.heap.size < w1.heap.size := (by have hzz := hb_w1.size; (try simp only [World.size_alloc, World.size_setCell, World.size_drew, World.heap_drewN] at hzz); omega); have hs_w1 := hb_w1.size; (try simp only [World.size_alloc, World.size_setCell, World.size_drew, World.heap_drewN] at hs_w1)
      have hx0 := hcl 0 hpos
      rw [HW0.out] at hx0
      have b1 : Below w.heap.size w w1 := (by repeat (first | exact Below.refl _ _ | assumption | (refine below_drewN ?_ _) | (refine Below.drew ?_) | (refine Below.alloc ?_ (by first | omega | (simp; omega) | simp) _) | (refine Below.setCell ?_ (by first | omega | (simp; omega) | simp) _) | (refine below_trans ?_ (by assumption) (by first | omega | (simp; omega) | simp))))
      have hR1 : Hid (Cm13 w1 w.heap.size in0 [] 0) := Lib.hid ((Cm13.new0 w 74).later hb_w1)
      have hZ1 : Hid (∀ o, w1.frozen? ⟨w.heap.size, o, none⟩ = false) := Lib.hid (fz_later (fz_new w #[.int .u8 0, .int .u8 0, .int .i64 0, .int .i64 0, .int .i64 0, .int .i64 0, .int .u64 0, .int .u64 0, .int .i64 0, .int .i64 0, .int .i64 0, .string ⟨#[]⟩, .int .i64 0] 74) hb_w1 (by simp))
      simp only [World.size_alloc] at hx0 hsz1
      clear hcl hc_w1 hf_w1
      go_wp2_with fail
      go_at_call 69
      refine (HNA.out _ (hL.later (by repeat (first | exact Below.refl _ _ | assumption | (refine below_drewN ?_ _) | (refine Below.drew ?_) | (refine Below.alloc ?_ (by first | omega | (simp; omega) | simp) _) | (refine Below.setCell ?_ (by first | omega | (simp; omega) | simp) _) | (refine below_trans ?_ (by assumption) (by first | omega | (simp; omega) | simp)))))).mono ?_
      rintro e w2 ⟨rfl, hb_w2⟩
      obtain ⟨hc_w2, hf_w2⟩ := bcell hb_w2; have hs_w2 := hb_w2.size; (try simp only [World.size_alloc, World.size_setCell, World.size_drew, World.heap_drewN] at hs_w2)
      have b2 : Below w.heap.size w w2 := (by repeat (first | exact Below.refl _ _ | assumption | (refine below_drewN ?_ _) | (refine Below.drew ?_) | (refine Below.alloc ?_ (by first | omega | (simp; omega) | simp) _) | (refine Below.setCell ?_ (by first | omega | (simp; omega) | simp) _) | (refine below_trans ?_ (by assumption) (by first | omega | (simp; omega) | simp))))
      have hs12 := hb_w2.size
      go_wp2_with fail
      go_at_call 52
      refine (HLI.out _).mono ?_
      rintro e w3 ⟨A, cap, rfl, ⟨hor, hab0⟩, hb_w3⟩
      obtain ⟨hc_w3, hf_w3⟩ := bcell hb_w3; have hz_w3_w2_0 : w2.heap.size < w3.heap.size := (by have hzz := hb_w3.size; (try simp only [World.size_alloc, World.size_setCell, World.size_drew, World.heap_drewN] at hzz); omega); have hs_w3 := hb_w3.size; (try simp only [World.size_alloc, World.size_setCell, World.size_drew, World.heap_drewN] at hs_w3)
      have b3 : Below w.heap.size w w3 := (by repeat (first | exact Below.refl _ _ | assumption | (refine below_drewN ?_ _) | (refine Below.drew ?_) | (refine Below.alloc ?_ (by first | omega | (simp; omega) | simp) _) | (refine Below.setCell ?_ (by first | omega | (simp; omega) | simp) _) | (refine below_trans ?_ (by assumption) (by first | omega | (simp; omega) | simp))))
      have b13 : Below w1.heap.size w1 w3 := below_trans (below_trans (show Below w1.heap.size w1 w2 from hb_w2) (show Below w2.heap.size w2 (w2.alloc (.cells #[.string (bs f'.nm), .int .u8 f'.kd, .int .u8 f'.op, .int .i64 (opn f' 0), .int .i64 (opn f' 1), .int .i64 (opn f' 2)] 99)) from Below.alloc (Below.refl _ _) (Nat.le_refl _) _) hs12) hb_w3 (by simp; omega)
      have hR3 := hR1.out.later b13
      have hZ3 := fz_later hZ1.out b13 hR1.out.lt
      have HR3 := Lib.hid hR3
      obtain ⟨⟨c0, c1, c2, c3, c4, c5, c6, c7, c8, c9, c10⟩, c11, c12⟩ := hR3
      simp only [Nat.zero_add, in0] at c0 c1 c2 c3 c4 c5 c6 c7 c8 c9 c10
      have z0 := hZ3 0
      have z1 := hZ3 1
      have z2 := hZ3 2
      have z3 := hZ3 3
      have z4 := hZ3 4
      have z5 := hZ3 5
      have z6 := hZ3 6
      have z7 := hZ3 7
      have z8 := hZ3 8
      have z9 := hZ3 9
      have z10 := hZ3 10
      have z11 := hZ3 11
      have z12 := hZ3 12
      clear hZ3 hor hab0
      go_wp2
      exact bodyPost_ret (res_cm2 rfl rfl (Cm13.zero13 HR3.out)) rfl (parsR_none HPR2.out rfl (below_zero13 b3 (Nat.le_refl _)))
end
end Go.Proofs.YtggaijdbaplfiaaGreatDoor
