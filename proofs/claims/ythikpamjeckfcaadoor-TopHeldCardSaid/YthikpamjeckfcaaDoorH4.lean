/- Region 35 of TopHeld: two rows are cut, the new pages are stored. -/
import Derived.Test.YthikpamjeckfcaaDoorH2c
import Derived.Deep.RegionHeld3
namespace Go.Proofs.YthikpamjeckfcaaDoor
open Go.RowKit
set_option linter.unusedVariables false
set_option linter.unusedSimpArgs false

/-- the region of that number -/
def regOf (n : Nat) : Code → Option (Array Oper × Bool)
  | .region id ops d => if id = n then some (ops, d) else none
  | .seq a b => match regOf n a with
    | some r => some r
    | none => regOf n b
  | .cond _ a b => match regOf n a with
    | some r => some r
    | none => regOf n b
  | .block _ b => regOf n b
  | .loop b => regOf n b
  | .scope b => regOf n b
  | _ => none
theorem owns_mono {w : World} {B B' s n : Nat} {e : TypeId} {v : Value} {xs : List Value} (h : w.ownsRow B e s v n xs) (hB : B' ≤ B) : w.ownsRow B' e s v n xs := by
  obtain ⟨h0, h1 | ⟨g, c, cur, h1, h2, h3⟩⟩ := h
  · exact ⟨h0, .inl h1⟩
  · exact ⟨h0, .inr ⟨g, c, cur, h1, Nat.le_trans hB h2, h3⟩⟩
theorem row2_of {w : World} {B0 B g cap k t : Nat} {gs : List Nat} (h : w.ownsRow B0 3 1 (.slice (some ⟨g, 0, none⟩) k cap) k (natv (([] ++ gs.take t) ++ gs.drop (t + 1)))) (hk : k = gs.length - 1) (ht : t < gs.length) (hB : B ≤ B0) : Row2 w B (some ⟨g, 0, none⟩) cap (cutAt gs t) := by
  subst hk
  unfold Row2
  rw [length_cutAt gs t ht]
  exact owns_mono h hB
theorem cut_ptr (g lo c m d : Nat) : Value.slice (if c = lo then some ⟨g, 0, none⟩ else some ⟨g, lo, none⟩) m d = .slice (some ⟨g, if c = lo then 0 else lo, none⟩) m d := by split <;> rfl
theorem cut_cell {w : World} {g lo c m j : Nat} {xs : List Nat} (hc : ∀ i, i < xs.length → w.cell? ⟨g, i, none⟩ = some (.int .i64 (xs.getD i 0 : Nat))) (hm : m = xs.length - lo) (hcap : xs.length ≤ c) (hj : j < m) : w.cell? ⟨g, (if c = lo then 0 else lo) + j, none⟩ = some (.int .i64 ((xs.drop lo).getD j 0 : Nat)) := by
  rw [if_neg (by omega), getD_drop]
  exact hc _ (by omega)
theorem ne_blk {g g' b : Nat} (h : g ≠ b) : blk (some ⟨g, 0, none⟩) = some g' → some b ≠ some g' := by
  intro e e2
  have e : g = g' := by simpa [blk] using e
  injection e2 with e2
  omega
theorem sep_old {wz : World} {A : Option Addr} {us : List Nat} {g' : Nat} (hr : Row wz wz.heap.size A us) (hg : wz.heap.size ≤ g') : ∀ g, blk (some ⟨g', 0, none⟩) = some g → 0 < us.length → ∀ b o, A = some ⟨b, o, none⟩ → b ≠ g := by
  intro g e h0 b o eA
  have e : g' = g := by simpa [blk] using e
  obtain ⟨b', o', e2, hb, _⟩ := hr.at_ h0
  rw [eA] at e2
  injection e2 with e2
  injection e2 with e2
  omega
theorem sep_two {g7 g9 : Nat} (h : g7 ≠ g9) : ∀ g, blk (some ⟨g7, 0, none⟩) = some g → blk (some ⟨g9, 0, none⟩) ≠ some g := by
  intro g e e2
  have e : g7 = g := by simpa [blk] using e
  have e2 : g9 = g := by simpa [blk] using e2
  omega
theorem step_cut2 {ops : Array Oper} {d : Option Tmp} {ty : TypeId} {ps : String} {af : Array Edge} {a : Act} {K : Act → World → Prop} {Q : Exit → Act → World → Prop} {E : Prop} (w : World) (s x : Operand)
    (wz : World) (hb : Below wz.heap.size wz w) (a0 : Addr) (c0 n : Nat) (xs : List Nat) (hs : a.eval s = .slice (some a0) n c0) (hown : w.ownsRow wz.heap.size 3 1 (.slice (some a0) n c0) n (natv xs))
    (g0 lo m c : Nat) (hx : a.eval x = .slice (some ⟨g0, lo, none⟩) m c) (hlt : g0 < wz.heap.size) (news : List Nat) (hl : news.length = m)
    (hc : ∀ j, j < m → wz.cell? ⟨g0, lo + j, none⟩ = some (.int .i64 (news.getD j 0 : Nat))) (h63 : n + m ≤ 4096)
    (h : ∀ g cap w', w'.ownsRow wz.heap.size 3 1 (.slice (some ⟨g, 0, none⟩) (n + m) cap) (n + m) (natv (xs ++ news)) → Below wz.heap.size wz w' → w.grownBy w' (some a0.block) → (a0.block = g ∨ g = w.heap.size) → g < w'.heap.size → K (a.put d (.slice (some ⟨g, 0, none⟩) (n + m) cap)) w') :
    if Region.wanted { dst := d, op := .call { callee := .builtin .append, args := #[s, x], argTypes := #[22, 22] }, type := ty, pos := ps, after := af, guard := none } (yielded ops a.tmps) = true then Oper.wp Tryd.prog { dst := d, op := .call { callee := .builtin .append, args := #[s, x], argTypes := #[22, 22] }, type := ty, pos := ps, after := af, guard := none } a w K Q else E :=
  step_cut w rfl s x rfl wz hb a0 c0 n xs hs hown g0 lo m c hx hlt news hl hc h63 h
set_option maxRecDepth 100000 in
set_option maxHeartbeats 4000000 in
theorem region35 (w0 wz : World) (B pb qb n L t : Nat) (A : Option Addr) (cap : Nat) (us : List Nat) (gF cF gS cS : Nat) (gs ts : List Nat) (x0 x1 x2 x3 x4 x5 x6 x8 x11 x12 x13 x14 x15 x16 x17 x18 x19 x20 x21 x22 x25 x26 x27 x28 x29 x30 x31 x32 x33 x34 x35 x36 x37 x38 x39 x40 x41 x42 x43 x44 x45 x46 x47 x48 x49 x50 x51 x52 x53 x54 x55 x56 x57 x58 x59 x60 x61 x62 x63 x64 x65 x66 x67 x68 x69 x70 x71 x72 x73 x74 x75 x76 x77 x78 x79 x80 x81 x82 x83 x84 x85 x86 x87 x88 x89 x90 x91 x92 x93 x94 x95 x96 x97 x98 x99 x100 x101 x102 x103 x104 x105 x106 x107 x108 x109 x110 x111 x112 x113 x114 x115 x116 x117 x118 x119 x120 x121 x122 x123 x124 x125 x126 x127 x128 x129 x130 x131 x132 x133 x134 x135 x136 x137 x138 x139 x140 x141 x142 x143 x144 x145 x146 x147 x148 x149 x150 x151 x152 x153 x154 x155 x156 x157 x158 x159 x160 x161 x162 x163 x164 x165 x166 x167 x168 x169 x170 x171 x172 x173 x174 x175 x176 x177 x178 x179 x180 x181 x182 x183 x184 x185 x186 : Value)
    (ops : Array Oper) (dr : Bool) (hreg : (Tryd.f3.body.bind (regOf 35)) = some (ops, dr))
    (C : CSt wz w0 B pb qb n L A cap us gF cF gS cS gs ts) (htg : t < gs.length) (hl : ts.length = gs.length) (h4 : gs.length ≤ 4096) (hpb : w0.heap.size ≤ pb) :
    Code.wp Tryd.prog (Code.region 35 ops dr) (fun e a' w' => e = .normal ∧ ∃ (gF' cF' gS' cS' mF' mS' : Nat) (z154 z155 z156 z157 z158 z159 z160 z161 z162 z163 z164 z165 z166 z167 z168 z169 z170 z171 z172 z173 z174 : Value), mF' = gs.length - 1 ∧ mS' = gs.length - 1 ∧ HSt w' B pb n L A cap us (some ⟨gF', 0, none⟩) cF' (some ⟨gS', 0, none⟩) cS' (cutAt gs t) (cutAt ts t) ∧ Below w0.heap.size w0 w' ∧
      a' = { tmps := #[x0, x1, x2, x3, x4, x5, x6, .pointer (some ⟨pb, 0, none⟩), x8, .slice (some ⟨gF', 0, none⟩) mF' cF', .slice (some ⟨gS', 0, none⟩) mS' cS', x11, x12, x13, x14, x15, x16, x17, x18, x19, x20, x21, x22, .int .i64 (t : Nat), .pointer (some ⟨qb, 0, none⟩), x25, x26, x27, x28, x29, x30, x31, x32, x33, x34, x35, x36, x37, x38, x39, x40, x41, x42, x43, x44, x45, x46, x47, x48, x49, x50, x51, x52, x53, x54, x55, x56, x57, x58, x59, x60, x61, x62, x63, x64, x65, x66, x67, x68, x69, x70, x71, x72, x73, x74, x75, x76, x77, x78, x79, x80, x81, x82, x83, x84, x85, x86, x87, x88, x89, x90, x91, x92, x93, x94, x95, x96, x97, x98, x99, x100, x101, x102, x103, x104, x105, x106, x107, x108, x109, x110, x111, x112, x113, x114, x115, x116, x117, x118, x119, x120, x121, x122, x123, x124, x125, x126, x127, x128, x129, x130, x131, x132, x133, x134, x135, x136, x137, x138, x139, x140, x141, x142, x143, x144, x145, x146, x147, x148, x149, x150, x151, x152, x153, z154, z155, z156, z157, z158, z159, z160, z161, z162, z163, z164, z165, z166, z167, z168, z169, z170, z171, z172, z173, z174, x175, x176, x177, x178, x179, x180, x181, x182, x183, x184, x185, x186], defers := [] }) { tmps := #[x0, x1, x2, x3, x4, x5, x6, .pointer (some ⟨pb, 0, none⟩), x8, .slice (some ⟨gF, 0, none⟩) gs.length cF, .slice (some ⟨gS, 0, none⟩) gs.length cS, x11, x12, x13, x14, x15, x16, x17, x18, x19, x20, x21, x22, .int .i64 (t : Nat), .pointer (some ⟨qb, 0, none⟩), x25, x26, x27, x28, x29, x30, x31, x32, x33, x34, x35, x36, x37, x38, x39, x40, x41, x42, x43, x44, x45, x46, x47, x48, x49, x50, x51, x52, x53, x54, x55, x56, x57, x58, x59, x60, x61, x62, x63, x64, x65, x66, x67, x68, x69, x70, x71, x72, x73, x74, x75, x76, x77, x78, x79, x80, x81, x82, x83, x84, x85, x86, x87, x88, x89, x90, x91, x92, x93, x94, x95, x96, x97, x98, x99, x100, x101, x102, x103, x104, x105, x106, x107, x108, x109, x110, x111, x112, x113, x114, x115, x116, x117, x118, x119, x120, x121, x122, x123, x124, x125, x126, x127, x128, x129, x130, x131, x132, x133, x134, x135, x136, x137, x138, x139, x140, x141, x142, x143, x144, x145, x146, x147, x148, x149, x150, x151, x152, x153, x154, x155, x156, x157, x158, x159, x160, x161, x162, x163, x164, x165, x166, x167, x168, x169, x170, x171, x172, x173, x174, x175, x176, x177, x178, x179, x180, x181, x182, x183, x184, x185, x186], defers := [] } wz := by
  have hreg0 : (Tryd.f3.body.bind (regOf 35)) = some (_, _) := rfl
  rw [hreg0] at hreg
  injection hreg with hreg
  injection hreg with hreg1 hreg2
  subst hreg1 hreg2
  clear hreg0
  have CC := Lib.hid C
  obtain ⟨⟨u, v, pz0, pz1, pzf⟩, ⟨qz0, qz1, qzf⟩, _, zfr, zsr, zl, zb, zq, zpq, zapA, _⟩ := C
  obtain ⟨_, eF, _, zgF, zcF, zF⟩ := zfr.cells (by omega)
  obtain ⟨_, eS, _, zgS, zcS, zS⟩ := zsr.cells (by omega)
  obtain rfl : gF = _ := by injection eF with eF; injection eF
  obtain rfl : gS = _ := by injection eS with eS; injection eS
  clear eF eS zfr zsr zapA
  have zF1 : ∀ i, i < gs.length → wz.cell? ⟨gF, i, none⟩ = some (.int .i64 (gs.getD i 0 : Nat)) := zF
  have zS1 : ∀ i, i < ts.length → wz.cell? ⟨gS, i, none⟩ = some (.int .i64 (ts.getD i 0 : Nat)) := zS
  clear zF zS
  have et : IntKind.i64.wrap ((t : Int) + 1) = (t : Int) + 1 := by rw [IntWalk.i64_in _ (by omega)]
  have tf6 : (0 : Int) ≤ (t : Int) + 1 := by omega
  have mF : Hid (gs.length - (t + 1) = gs.length - (t + 1)) := Lib.hid rfl
  have mS : Hid (gs.length - (t + 1) = ts.length - (t + 1)) := Lib.hid (by rw [hl])
  have tf7 : (1 : Int) ≤ (gs.length : Int) := by omega
  have ti0 : (0 : Int) ≤ (t : Int) := by omega
  have ti1 : (t : Int) < (gs.length : Int) := by omega
  have tf4 : (t : Int) + 1 ≤ (gs.length : Int) := by omega
  have tf0 : (t : Int) ≤ (cF : Int) := by omega
  have tf1 : (t : Int) ≤ (cS : Int) := by omega
  have tf2 : (gs.length : Int) ≤ (cF : Int) := by omega
  have tf3 : (gs.length : Int) ≤ (cS : Int) := by omega
  go_region_held3 (fun W : World => W.cell? ⟨qb, 0, none⟩ = some (.int .i64 (n : Nat)) ∧ W.cell? ⟨qb, 1, none⟩ = some (.slice A L cap))
    ((refine ⟨?_, ?_⟩ <;> first | assumption | (simp [go_sem]; done) | exact (World.cell?_alloc_lt _ _ ⟨_, _, _⟩ (by first | omega | (simp; omega) | simp)).trans (by assumption) | (simp [go_sem, *]; done)))
    ((first
      | (refine step_cut2 _ (.tmp 155) (.tmp 158) wz ?_ ?_ 0 0 [] ?_ ?_ gF 0 t cF ?_ ?_ (gs.take t) ?_ ?_ ?_ ?_; (case refine_3 => rfl); (case refine_5 => rfl); (case refine_1 => exact (by repeat (first | exact Below.refl _ _ | assumption | (refine below_drewN ?_ _) | (refine Below.drew ?_) | (refine Below.alloc ?_ (by first | omega | (simp; omega) | simp) _) | (refine Below.setCell ?_ (by first | omega | (simp; omega) | simp) _) | (refine below_trans ?_ (by assumption) (by first | omega | (simp; omega) | simp))))); (case refine_4 => exact own_blank (by first | omega | (simp; omega) | simp) (by first | exact bl1 _ _ | exact bl1b _ _ _ | exact bl2 _ _ _)); (case refine_6 => omega); (case refine_7 => rw [List.length_take]; omega); (case refine_8 => exact fun j hj => (by rw [getD_take _ _ _ hj, Nat.zero_add]; exact zF1 j (by omega))); (case refine_9 => omega); intro g6 cap6 w6 hown6 hb6 hg6 hat6 hlt6; simp only [Nat.zero_add] at hown6 ⊢; have hs6 := hg6.size; (try simp only [World.size_alloc, World.size_drew, World.heap_drewN, World.size_setCell] at hs6 hat6); have u60 : w6.cell? ⟨qb, 0, none⟩ = _ := (hb6.cell (p := ⟨qb, 0, none⟩) zq).trans qz0; have u61 : w6.cell? ⟨qb, 1, none⟩ = _ := (hb6.cell (p := ⟨qb, 1, none⟩) zq).trans qz1)
      | (refine step_cut2 _ (.tmp 159) (.tmp 163) wz ?_ ⟨g6, 0, none⟩ cap6 ?_ ([] ++ gs.take t) ?_ ?_ gF (if cF = t + 1 then 0 else t + 1) (gs.length - (t + 1)) (cF - (t + 1)) ?_ ?_ (gs.drop (t + 1)) ?_ ?_ ?_ ?_; (case refine_3 => rfl); (case refine_5 => exact cut_ptr gF (t + 1) cF (gs.length - (t + 1)) (cF - (t + 1))); (case refine_1 => exact (by repeat (first | exact Below.refl _ _ | assumption | (refine below_drewN ?_ _) | (refine Below.drew ?_) | (refine Below.alloc ?_ (by first | omega | (simp; omega) | simp) _) | (refine Below.setCell ?_ (by first | omega | (simp; omega) | simp) _) | (refine below_trans ?_ (by assumption) (by first | omega | (simp; omega) | simp))))); (case refine_4 => first | exact hown6 | exact hown6.alloc _ | exact owns_later hown6 (by repeat (first | exact Below.refl _ _ | assumption | (refine below_drewN ?_ _) | (refine Below.drew ?_) | (refine Below.alloc ?_ (by first | omega | (simp; omega) | simp) _) | (refine Below.setCell ?_ (by first | omega | (simp; omega) | simp) _) | (refine below_trans ?_ (by assumption) (by first | omega | (simp; omega) | simp))))); (case refine_6 => omega); (case refine_7 => exact List.length_drop.trans mF.out.symm); (case refine_8 => intro j hj; exact cut_cell zF1 mF.out zcF hj); (case refine_9 => omega); intro g7 cap7 w7 hown7 hb7 hg7 hat7 hlt7; have hs7 := hg7.size; (try simp only [World.size_alloc, World.size_drew, World.heap_drewN, World.size_setCell] at hs7 hat7); have u70 : w7.cell? ⟨qb, 0, none⟩ = _ := (hb7.cell (p := ⟨qb, 0, none⟩) zq).trans qz0; have u71 : w7.cell? ⟨qb, 1, none⟩ = _ := (hb7.cell (p := ⟨qb, 1, none⟩) zq).trans qz1; have f7 : Row2 w7 B (some ⟨g7, 0, none⟩) cap7 (cutAt gs t) := row2_of hown7 (by omega) htg zb)
      | (refine step_cut2 _ (.tmp 165) (.tmp 168) wz ?_ ?_ 0 0 [] ?_ ?_ gS 0 t cS ?_ ?_ (ts.take t) ?_ ?_ ?_ ?_; (case refine_3 => rfl); (case refine_5 => rfl); (case refine_1 => exact (by repeat (first | exact Below.refl _ _ | assumption | (refine below_drewN ?_ _) | (refine Below.drew ?_) | (refine Below.alloc ?_ (by first | omega | (simp; omega) | simp) _) | (refine Below.setCell ?_ (by first | omega | (simp; omega) | simp) _) | (refine below_trans ?_ (by assumption) (by first | omega | (simp; omega) | simp))))); (case refine_4 => exact own_blank (by first | omega | (simp; omega) | simp) (by first | exact bl1 _ _ | (refine (hg7.block _ ?_ ?_).trans (bl1 _ _); (first | omega | (simp only [World.size_alloc, World.size_drew]; omega) | (simp; done)); (intro e; injection e with e; (try dsimp only at e); omega)) | (refine (hg7.block _ ?_ ?_).trans ((hg6.block _ ?_ ?_).trans (bl2 _ _ _)); (first | omega | (simp only [World.size_alloc, World.size_drew]; omega) | (simp; done)); (intro e; injection e with e; (try dsimp only at e); omega); (first | omega | (simp only [World.size_alloc, World.size_drew]; omega) | (simp; done)); (intro e; injection e with e; (try dsimp only at e); omega)) | (refine (hg7.block _ ?_ ?_).trans ((hg6.block _ ?_ ?_).trans (bl1b _ _ _)); (first | omega | (simp only [World.size_alloc, World.size_drew]; omega) | (simp; done)); (intro e; injection e with e; (try dsimp only at e); omega); (first | omega | (simp only [World.size_alloc, World.size_drew]; omega) | (simp; done)); (intro e; injection e with e; (try dsimp only at e); omega)))); (case refine_6 => omega); (case refine_7 => rw [List.length_take]; omega); (case refine_8 => exact fun j hj => (by rw [getD_take _ _ _ hj, Nat.zero_add]; exact zS1 j (by omega))); (case refine_9 => omega); intro g8 cap8 w8 hown8 hb8 hg8 hat8 hlt8; simp only [Nat.zero_add] at hown8 ⊢; have hs8 := hg8.size; (try simp only [World.size_alloc, World.size_drew, World.heap_drewN, World.size_setCell] at hs8 hat8); have u80 : w8.cell? ⟨qb, 0, none⟩ = _ := (hb8.cell (p := ⟨qb, 0, none⟩) zq).trans qz0; have u81 : w8.cell? ⟨qb, 1, none⟩ = _ := (hb8.cell (p := ⟨qb, 1, none⟩) zq).trans qz1; have f8 : Row2 w8 B (some ⟨g7, 0, none⟩) cap7 (cutAt gs t) := Row2.kept (by first | exact f7 | exact owns_later f7 (by repeat (first | exact Below.refl _ _ | assumption | (refine below_drewN ?_ _) | (refine Below.drew ?_) | (refine Below.alloc ?_ (by first | omega | (simp; omega) | simp) _) | (refine Below.setCell ?_ (by first | omega | (simp; omega) | simp) _) | (refine below_trans ?_ (by assumption) (by first | omega | (simp; omega) | simp))))) hg8 (fun g' => ne_blk (by (try simp only []); omega)))
      | (refine step_cut2 _ (.tmp 169) (.tmp 173) wz ?_ ⟨g8, 0, none⟩ cap8 ?_ ([] ++ ts.take t) ?_ ?_ gS (if cS = t + 1 then 0 else t + 1) (gs.length - (t + 1)) (cS - (t + 1)) ?_ ?_ (ts.drop (t + 1)) ?_ ?_ ?_ ?_; (case refine_3 => rfl); (case refine_5 => exact cut_ptr gS (t + 1) cS (gs.length - (t + 1)) (cS - (t + 1))); (case refine_1 => exact (by repeat (first | exact Below.refl _ _ | assumption | (refine below_drewN ?_ _) | (refine Below.drew ?_) | (refine Below.alloc ?_ (by first | omega | (simp; omega) | simp) _) | (refine Below.setCell ?_ (by first | omega | (simp; omega) | simp) _) | (refine below_trans ?_ (by assumption) (by first | omega | (simp; omega) | simp))))); (case refine_4 => first | exact hown8 | exact hown8.alloc _ | exact owns_later hown8 (by repeat (first | exact Below.refl _ _ | assumption | (refine below_drewN ?_ _) | (refine Below.drew ?_) | (refine Below.alloc ?_ (by first | omega | (simp; omega) | simp) _) | (refine Below.setCell ?_ (by first | omega | (simp; omega) | simp) _) | (refine below_trans ?_ (by assumption) (by first | omega | (simp; omega) | simp))))); (case refine_6 => omega); (case refine_7 => exact List.length_drop.trans mS.out.symm); (case refine_8 => intro j hj; exact cut_cell zS1 mS.out zcS hj); (case refine_9 => omega); intro g9 cap9 w9 hown9 hb9 hg9 hat9 hlt9; have hs9 := hg9.size; (try simp only [World.size_alloc, World.size_drew, World.heap_drewN, World.size_setCell] at hs9 hat9); have u90 : w9.cell? ⟨qb, 0, none⟩ = _ := (hb9.cell (p := ⟨qb, 0, none⟩) zq).trans qz0; have u91 : w9.cell? ⟨qb, 1, none⟩ = _ := (hb9.cell (p := ⟨qb, 1, none⟩) zq).trans qz1; have f9 : Row2 w9 B (some ⟨g7, 0, none⟩) cap7 (cutAt gs t) := Row2.kept f8 hg9 (fun g' => ne_blk (by (try simp only []); omega)); have s9 : Row2 w9 B (some ⟨g9, 0, none⟩) cap9 (cutAt ts t) := row2_of hown9 (by omega) (by omega) zb; have n79 : g7 ≠ g9 := (by omega); have pp : Two w9 pb u v := (Two.mk pz0 pz1 pzf).below hb9 (by omega); obtain ⟨pp0, pp1, ppf⟩ := id pp; have r9 : Row w9 w9.heap.size A us := CC.out.row.later hb9; have z9 := hb9.size; have k7 := (hown7.lt g7 rfl).1; have k9 := (hown9.lt g9 rfl).1)))
  all_goals
    have zs := CC.out.bel.size
    exact ⟨rfl, g7, cap7, g9, cap9, _, _, _, _, _, _, _, _, _, _, _, _, _, _, _, _, _, _, _, _, _, _, _, by omega, by omega, RSt.held ⟨r9, f9, s9, sep_two n79, sep_old CC.out.row k7, sep_old CC.out.row k9, by omega⟩ pp zl CC.out.apA, (by repeat (first | exact Below.refl _ _ | assumption | (refine below_drewN ?_ _) | (refine Below.drew ?_) | (refine Below.alloc ?_ (by first | omega | (simp; omega) | simp) _) | (refine Below.setCell ?_ (by first | omega | (simp; omega) | simp) _) | (refine below_trans ?_ (by assumption) (by first | omega | (simp; omega) | simp)))), rfl⟩
end Go.Proofs.YthikpamjeckfcaaDoor
