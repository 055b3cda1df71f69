/- What the law TopHeld wants: the questions whose answers the document gives (begins); rows of numbers that grow; the state of its loops. -/
import Derived.Test.YthikpamjeckfcaaDoorH1
import Derived.Test.YthikpamjeckfcaaDoorQ5
import Derived.Test.YthikpamjeckfcaaDoorK2
namespace Go.Proofs.YthikpamjeckfcaaDoor
open Go.RowKit
set_option linter.unusedVariables false
set_option linter.unusedSimpArgs false

set_option maxHeartbeats 1000000 in
theorem begins_any (w : World) : Calls Tryd.prog 5 #[] w fun e w' => e = .returned (.bool true) ∧ Below w.heap.size w w' := by
  go_enter Tryd.func5, Tryd.ntmps5
  go_wp2_with fail
  go_at_call 20
  refine ((make_ok 70 _ (by omega) (by omega)).mono fun _ _ h => h.got (vs := [0, 0]) rfl).mono ?_
  rintro e w1 ⟨u1, A1, cap1, hu1, rfl, ho1, hb_w1⟩
  obtain ⟨hc_w1, hf_w1⟩ := bcell hb_w1; have hs_w1 := hb_w1.size; (try simp only [World.size_alloc, World.size_setCell, World.size_drew, World.heap_drewN] at hs_w1)
  have hR1 : Hid (Right 70 u1) := Lib.hid (by rw [hu1.out]; exact right70)
  go_wp2_with fail
  go_at_call 18
  refine ((put_in cap1 true 69 (ho1.row.later (by repeat (first | exact Below.refl _ _ | assumption | (refine below_drewN ?_ _) | (refine Below.drew ?_) | (refine Below.alloc ?_ (by first | omega | (simp; omega) | simp) _) | (refine Below.setCell ?_ (by first | omega | (simp; omega) | simp) _) | (refine below_trans ?_ (by assumption) (by first | omega | (simp; omega) | simp))))) hR1.out (by omega) (by omega)).mono fun _ _ h => h.got (vs := [0, 32]) (by rw [hu1.out]; decide)).mono ?_
  rintro e w2 ⟨u2, A2, cap2, hu2, rfl, ho2, hb_w2⟩
  obtain ⟨hc_w2, hf_w2⟩ := bcell hb_w2; have hz_w2_w1_0 : w1.heap.size < w2.heap.size := (by have hzz := hb_w2.size; (try simp only [World.size_alloc, World.size_setCell, World.size_drew, World.heap_drewN] at hzz); omega); have hs_w2 := hb_w2.size; (try simp only [World.size_alloc, World.size_setCell, World.size_drew, World.heap_drewN] at hs_w2)
  have hR2 : Hid (Right 70 u2) := Lib.hid (by rw [hu2.out]; exact right70')
  have t2 : Two w2 w1.heap.size _ _ := (Two.new w1 _ _ _).below hb_w2 (by first | omega | (simp; omega) | simp)
  obtain ⟨q0, q1, _⟩ := id t2
  have s0 : ∀ V, (w2.setCell ⟨w1.heap.size, 0, none⟩ V).cell? ⟨w1.heap.size, 0, none⟩ = some V := fun V => World.cell?_setCell_same _ _ _ q0
  have s1 : ∀ V V', ((w2.setCell ⟨w1.heap.size, 0, none⟩ V).setCell ⟨w1.heap.size, 1, none⟩ V').cell? ⟨w1.heap.size, 1, none⟩ = some V' := fun V V' => (set_two V V' q0 q1).2
  have s2 : ∀ V V', ((w2.setCell ⟨w1.heap.size, 0, none⟩ V).setCell ⟨w1.heap.size, 1, none⟩ V').cell? ⟨w1.heap.size, 0, none⟩ = some V := fun V V' => (set_two V V' q0 q1).1
  have r2 := (ho2.two (g := w1.heap.size) (u := .int .i64 70) (v := .slice A2 u2.length cap2) (by first | omega | (simp; omega) | simp))
  go_wp2_with fail
  go_at_call 21
  refine (count_ok cap2 r2.row hR2.out).mono ?_
  rintro e w3 ⟨rfl, hb_w3⟩
  obtain ⟨hc_w3, hf_w3⟩ := bcell hb_w3; have hz_w3_w1_0 : w1.heap.size < w3.heap.size := (by have hzz := hb_w3.size; (try simp only [World.size_alloc, World.size_setCell, World.size_drew, World.heap_drewN] at hzz); omega); have hs_w3 := hb_w3.size; (try simp only [World.size_alloc, World.size_setCell, World.size_drew, World.heap_drewN] at hs_w3)
  rw [show countTo u2 (70 : Int).toNat = 1 by rw [hu2.out]; decide]
  go_wp2
  go_ret
  exact ⟨rfl, (by repeat (first | exact Below.refl _ _ | assumption | (refine below_drewN ?_ _) | (refine Below.drew ?_) | (refine Below.alloc ?_ (by first | omega | (simp; omega) | simp) _) | (refine Below.setCell ?_ (by first | omega | (simp; omega) | simp) _) | (refine below_trans ?_ (by assumption) (by first | omega | (simp; omega) | simp))))⟩

def natv (fs : List Nat) : List Value := fs.map fun (x : Nat) => Value.int .i64 ((x : Nat) : Int)
theorem length_natv (fs : List Nat) : (natv fs).length = fs.length := by simp [natv]
theorem natv_at (fs : List Nat) (i : Nat) (h : i < fs.length) : (natv fs)[i]? = some (.int .i64 (fs.getD i 0 : Nat)) := by
  simp [natv, h]
theorem natv_one (fs : List Nat) : ∀ v ∈ natv fs, v.oneCell' = true := by
  intro v hv
  simp only [natv, List.mem_map] at hv
  obtain ⟨x, _, rfl⟩ := hv
  rfl
theorem natv_snoc (fs : List Nat) (a : Nat) : natv fs ++ [.int .i64 (a : Nat)] = natv (fs ++ [a]) := by simp [natv]
def blk (A : Option Addr) : Option Nat := A.map fun a => a.block
/-- a row of numbers that may grow -/
abbrev Row2 (w : World) (B : Nat) (A : Option Addr) (cap : Nat) (fs : List Nat) : Prop := w.ownsRow B 3 1 (.slice A fs.length cap) fs.length (natv fs)
theorem own_blk (A : Option Addr) (k cap : Nat) : (Value.slice A k cap).ownBlock = blk A := by cases A <;> rfl
theorem Row2.cells {w : World} {B cap : Nat} {A : Option Addr} {fs : List Nat} (h : Row2 w B A cap fs) (h0 : 0 < fs.length) : ∃ g, A = some ⟨g, 0, none⟩ ∧ B ≤ g ∧ g < w.heap.size ∧ fs.length ≤ cap ∧ ∀ i, i < fs.length → w.cell? ⟨g, i, none⟩ = some (.int .i64 (fs.getD i 0 : Nat)) := by
  obtain ⟨_, ⟨h1, h2⟩ | ⟨g, cap', cur, e, hB, _, hc, _, _, _⟩⟩ := id h
  · omega
  · injection e with e1 e2 e3
    subst e1 e3
    exact ⟨g, rfl, hB, (h.lt g rfl).2, hc, fun i hi => by rw [h.cellAt i (by omega), natv_at fs i hi]⟩
theorem Row2.blk_lt {w : World} {B cap g : Nat} {A : Option Addr} {fs : List Nat} (h : Row2 w B A cap fs) (hg : blk A = some g) : B ≤ g ∧ g < w.heap.size := h.lt g (by rw [own_blk]; exact hg)
theorem owns_later {w w' : World} {B s n : Nat} {e : TypeId} {v : Value} {xs : List Value} (h : w.ownsRow B e s v n xs) (hb : Below w.heap.size w w') : w'.ownsRow B e s v n xs := by
  refine World.ownsRow.kept (row := none) h ⟨hb.os, hb.tape, hb.output, hb.size, fun k hk _ => hb.block k hk⟩ ?_
  cases hv : v.ownBlock
  · exact .inl rfl
  · exact .inr (by simp)
/-- the state of the loops: pages at pb, words that they have at A, numbers at AF and AS -/
structure HSt (w : World) (B pb n L : Nat) (A : Option Addr) (cap : Nat) (us : List Nat) (AF : Option Addr) (capF : Nat) (AS : Option Addr) (capS : Nat) (fs ss : List Nat) : Prop where
  two : Two w pb (.int .i64 (n : Nat)) (.slice A L cap)
  row : Row w w.heap.size A us
  f : Row2 w B AF capF fs
  s : Row2 w B AS capS ss
  sepFS : ∀ g, blk AF = some g → blk AS ≠ some g
  sepF : ∀ g, blk AF = some g → 0 < us.length → ∀ b o, A = some ⟨b, o, none⟩ → b ≠ g
  sepS : ∀ g, blk AS = some g → 0 < us.length → ∀ b o, A = some ⟨b, o, none⟩ → b ≠ g
  big : B ≤ w.heap.size
  low : pb < B
theorem HSt.later {w w' : World} {B pb n L cap capF capS : Nat} {A AF AS : Option Addr} {us fs ss : List Nat} (h : HSt w B pb n L A cap us AF capF AS capS fs ss) (hb : Below w.heap.size w w') : HSt w' B pb n L A cap us AF capF AS capS fs ss :=
  ⟨h.two.below hb (by have := h.big; have := h.low; omega), h.row.later hb, owns_later h.f hb, owns_later h.s hb, h.sepFS, h.sepF, h.sepS, Nat.le_trans h.big hb.size, h.low⟩
/-- a row grows: what lies elsewhere stays -/
theorem Row2.kept {w w' : World} {B cap : Nat} {A : Option Addr} {fs : List Nat} (h : Row2 w B A cap fs) {row : Option Nat} (hg : w.grownBy w' row) (hne : ∀ g, blk A = some g → row ≠ some g) : Row2 w' B A cap fs := by
  refine World.ownsRow.kept h hg ?_
  rw [own_blk]
  cases hA : blk A with
  | none => exact .inl rfl
  | some g => exact .inr (fun e => hne g hA e.symm)
theorem Row.grown {w w' : World} {A : Option Addr} {us : List Nat} (h : Row w w.heap.size A us) {row : Option Nat} (hg : w.grownBy w' row) (hne : ∀ b o, A = some ⟨b, o, none⟩ → row ≠ some b) : Row w' w'.heap.size A us :=
  ⟨h.words, fun hl => by
    obtain ⟨b, off, e, hb, hc⟩ := h.at_ hl
    exact ⟨b, off, e, Nat.lt_of_lt_of_le hb hg.size, fun i hi => (World.cell?_of_block (hg.block b hb (fun e2 => hne b off e e2.symm))).trans (hc i hi)⟩⟩
/-- a step of a region: numbers are appended to a row that is not nil; there may be none -/
theorem step_append_row {P : Program} {ops : Array Oper} {o : Oper} {a : Act} (w : World) {K : Act → World → Prop} {Q : Exit → Act → World → Prop} {E : Prop} (hgd : o.guard = none) (s x : Operand) (t : TypeId)
    (ho : o.op = .call { callee := .builtin .append, args := #[s, x], argTypes := #[t, t] })
    (base : Nat) (e : TypeId) (i : TypeInfo) (z : Value) (size bytes : Nat) (ht : P.underlying t = some (.slice e)) (hi : P.info? e = some i) (hz : i.zero = some z)
    (hsize : i.size = size) (hby : i.bytes = bytes) (hzs : z.cells.size = size) (hsz : 0 < size)
    (a0 : Addr) (c0 n : Nat) (xs : List Value) (hs : a.eval s = .slice (some a0) n c0) (hown : w.ownsRow base e size (.slice (some a0) n c0) n xs)
    (ad : Addr) (m c : Nat) (news : List Value) (hx : a.eval x = .slice (some ad) m c) (hl : news.length = m * size) (hnews : ∀ j u, news[j]? = some u → w.cell? (ad.add j) = some u) (h1 : ∀ u ∈ news, u.oneCell' = true)
    (h63 : n + m ≤ maxLen) (hbytes : (n + m) * bytes ≤ 140737488355328) (hbase : base ≤ w.heap.size) (H : Nat) (hH : w.heap.size = H)
    (h : ∀ g cap w', w'.ownsRow base e size (.slice (some ⟨g, 0, none⟩) (n + m) cap) (n + m) (xs ++ news) → w.grownBy w' (some a0.block) → (a0.block = g ∨ g = H) → g < w'.heap.size → K (a.put o.dst (.slice (some ⟨g, 0, none⟩) (n + m) cap)) w') :
    if Region.wanted o (yielded ops a.tmps) = true then Oper.wp P o a w K Q else E := by
  have hw : Region.wanted o (yielded ops a.tmps) = true := by simp [Region.wanted, hgd]
  rw [if_pos hw]
  obtain ⟨v', w', hr, h2, h3, h4, h5⟩ := run_append_own_at (P := P) w base t o.type e i z size bytes ht hi hz hsize hby hzs hsz _ n xs hown ad m c news hl hnews h1 h63 hbytes hbase
  have hne : v' ≠ .slice none 0 0 := fun he => by
    have := (h4.1 he).1
    cases this
  obtain ⟨_, ⟨hv, _⟩ | ⟨g, cap, cur, hv, _, hgg, _⟩⟩ := id h2
  · exact absurd hv hne
  · subst hv
    unfold Oper.wp execOp
    simp only [ho, resolve, invoke, builtin, Sem.run_bind, Sem.run_pure, Result.andThen_ok, List.map_toArray, List.map_cons, List.map_nil, hs, hx, hr]
    refine h g cap w' h2 h3 ?_ (heap_lt hgg)
    rcases h5 with h5 | h5
    · left
      have : some g = some a0.block := h5
      injection this with this
      exact this.symm
    · right
      have : some g = some w.heap.size := h5
      injection this with this
      rw [this, hH]
end Go.Proofs.YthikpamjeckfcaaDoor
