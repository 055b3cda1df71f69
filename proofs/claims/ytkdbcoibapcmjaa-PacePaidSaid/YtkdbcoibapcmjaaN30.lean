/- The walk of PacePaid. -/
import Derived.Test.YtkdbcoibapcmjaaN26
import Derived.Test.YtkdbcoibapcmjaaN0b
namespace Go.Proofs.Ytkdbcoibapcmjaa
open Go.RowKit
set_option linter.unusedVariables false
set_option linter.unusedSimpArgs false
set_option maxRecDepth 100000

/-- a step: whose, its words, its steps -/
structure Sq where
  who : Nat
  words : Nat
  steps : Nat
instance : Inhabited Sq := ⟨⟨0, 0, 0⟩⟩
def nthQ (l : List Sq) (i : Nat) : Sq := l.getD i ⟨0, 0, 0⟩
def SqRow (w : World) (B : Nat) (A : Option Addr) (l : List Sq) : Prop :=
  0 < l.length → ∃ b off, A = some ⟨b, off, none⟩ ∧ b < B ∧ ∀ i, i < l.length → (nthQ l i).who < 256 ∧ (nthQ l i).words < W64 ∧ (nthQ l i).steps < W64 ∧ w.cell? ⟨b, off + i * 3, none⟩ = some (.int .u8 ((nthQ l i).who : Nat)) ∧ w.cell? ⟨b, off + i * 3 + 1, none⟩ = some (.int .u64 ((nthQ l i).words : Nat)) ∧ w.cell? ⟨b, off + i * 3 + 2, none⟩ = some (.int .u64 ((nthQ l i).steps : Nat))
theorem SqRow.keep {w w' : World} {B : Nat} {A : Option Addr} {l : List Sq} (h : SqRow w B A l) (hb : Below B w w') : SqRow w' B A l := fun hl => by
  obtain ⟨b, off, e, hbb, hc⟩ := h hl
  refine ⟨b, off, e, hbb, fun i hi => ?_⟩
  obtain ⟨a1, a2, a3, c0, c1, c2⟩ := hc i hi
  exact ⟨a1, a2, a3, ((bcell hb).1 _ _ hbb).trans c0, ((bcell hb).1 _ _ hbb).trans c1, ((bcell hb).1 _ _ hbb).trans c2⟩
theorem row_one2 {w : World} {n g : Nat} (hn : n < W64) (hg : g = w.heap.size) : Row (w.alloc (.cells #[.int .u64 (n : Nat)] 22)) (w.alloc (.cells #[.int .u64 (n : Nat)] 22)).heap.size (some ⟨g, 0, none⟩) [n] :=
  Row.news (l := [n]) (fun x hx => by rw [List.mem_singleton.1 hx]; exact hn) hg
theorem allM_one {n : Nat} (h : n ≤ 1099511627776) : AllM [n] := fun d hd => by rw [List.mem_singleton.1 hd]; exact h
theorem ok_live {pct : Int} {lv : Nat} (h : OkP (newP pct 1 3)) (hl : lv ≤ 1099511627776) : OkP { newP pct 1 3 with live := lv } :=
  ⟨h.pct1, h.pct2, h.least1, h.least2, hl, h.len1, h.len2, h.est, h.room, h.credit, h.done, h.made, h.ds, fun e => by simp [newP] at e, fun _ => ⟨rfl, rfl, rfl, rfl, rfl, fun d hd => by simp [newP] at hd; exact hd⟩⟩
section
variable {w : World}
set_option maxHeartbeats 8000000 in
theorem pacePaid_walk (live heap : Nat) (pct : Int) (hp1 : -9223372036854775808 ≤ pct) (hp2 : pct ≤ 9223372036854775807) {S : Option Addr} (cl : Nat) (l : List Sq) (hs : SqRow w w.heap.size S l) (hsl : l.length ≤ 17592186044416) :
    Calls Try.prog 6 #[.int .u64 (live : Nat), .int .u64 (heap : Nat), .int .i64 pct, .slice S l.length cl] w fun e w' => e = .returned (.bool true) ∧ Below w.heap.size w w' := by
  have HLv := Lib.hid plives_any
  obtain ⟨lv, hlv⟩ : ∃ lv, live % 1073741824 = lv := ⟨_, rfl⟩
  obtain ⟨hp, hhp⟩ : ∃ hp, heap % 2147483648 = hp := ⟨_, rfl⟩
  have l1 : (live : Int) % 1073741824 = (lv : Int) := by omega
  have l2 : (live : Int).tmod 1073741824 = (lv : Int) := by rw [Int.tmod_eq_emod_of_nonneg (by omega)]; exact l1
  have l3 : IntKind.u64.wrap (lv : Int) = (lv : Int) := by rw [IntKind.wrap_u64]; omega
  have k1 : (heap : Int) % 2147483648 = (hp : Int) := by omega
  have k2 : (heap : Int).tmod 2147483648 = (hp : Int) := by rw [Int.tmod_eq_emod_of_nonneg (by omega)]; exact k1
  have k3 : IntKind.u64.wrap (hp : Int) = (hp : Int) := by rw [IntKind.wrap_u64]; omega
  have hlM : lv ≤ 1099511627776 := by omega
  have hhM : hp ≤ 1099511627776 := by omega
  clear hlv hhp
  by_cases hk : OkP (newP pct 1 3)
  · have HMk := Lib.hid fun (w : World) => pmakeP_any (w := w) pct 1 3 hp1 hp2 (by unfold W64; omega) (newP pct 1 3) 0 (.inl ⟨3, rfl, by omega, by omega, hk, rfl, rfl⟩)
    simp only [newP, List.length_replicate] at HMk
    have h1 := ok_live hk hlM
    obtain ⟨q0, hq0⟩ : ∃ q0, Hid (begP { newP pct 1 3 with live := lv } hp = q0) := ⟨_, rfl⟩
    have HBe := Lib.hid fun (w : World) (A : Option Addr) (c : Nat) hr hn => pbeginX_any (w := w) (p := { newP pct 1 3 with live := lv }) (A := A) c h1.fit hr (by simp [newP]) hn hp q0 0 (.inr (.inr (.inr ⟨h1, rfl, hhM, hq0.out.symm, rfl⟩)))
    simp only [newP, List.length_replicate] at HBe
    have HP0 := Lib.hid (Paid.begun hk hlM q0 hq0.out.symm)
    clear hk h1 hq0
    go_enter Try.func6, Try.ntmps6
    have rw := hs
    have b_rw := Below.refl w.heap.size w
    go_wp2_with fail
    go_at_call 15
    refine (HLv.out _).mono ?_
    rintro e w0 ⟨rfl, hb_w0⟩
    have s_w0 := hb_w0.size
    (try simp only [World.size_alloc, size_ten] at s_w0)
    have b_rw := below_trans b_rw hb_w0 b_rw.size
    clear hb_w0
    go_wp2_with fail
    go_at_call 13
    refine (HMk.out _).mono ?_
    rintro e w1 ⟨A1, c1, rfl, o_r1, hb_w1⟩
    have s_w1 := hb_w1.size
    (try simp only [World.size_alloc, size_ten] at s_w1)
    have b_rw := below_trans b_rw hb_w1 b_rw.size
    clear hb_w1
    have r1 := o_r1.row
    have b_r1 := Below.refl w1.heap.size w1
    have n1 := o_r1.nil
    have b_rw : Below w.heap.size w (w1.alloc (.cells #[.int .i64 pct, .int .u64 1, .int .u64 (lv : Nat), .bool false, .int .u64 0, .int .u64 0, .int .u64 0, .int .u64 0, .int .u64 0, .slice A1 3 c1] 25)) := b_rw.alloc (by first | omega | (simp only [World.size_alloc, size_ten]; omega)) _
    have b_r1 : Below w1.heap.size w1 (w1.alloc (.cells #[.int .i64 pct, .int .u64 1, .int .u64 (lv : Nat), .bool false, .int .u64 0, .int .u64 0, .int .u64 0, .int .u64 0, .int .u64 0, .slice A1 3 c1] 25)) := b_r1.alloc (by first | omega | (simp only [World.size_alloc, size_ten]; omega)) _
    have bp := Ten.new w1 (.int .i64 pct) (.int .u64 1) (.int .u64 (lv : Nat)) (.bool false) (.int .u64 0) (.int .u64 0) (.int .u64 0) (.int .u64 0) (.int .u64 0) (.slice A1 3 c1) 25
    (try simp only [World.size_alloc, size_ten] at bp)
    go_wp2_with fail
    go_at_call 20
    refine (HBe.out _ A1 c1 (by exact r1.later b_r1) n1).mono ?_
    rintro e w2 ⟨A2, c2, rfl, o_r2, hb_w2⟩
    have s_w2 := hb_w2.size
    (try simp only [World.size_alloc, size_ten] at s_w2)
    have bp := bp.later hb_w2
    have bp_lt := bp.lt
    have b_rw := below_trans b_rw hb_w2 b_rw.size
    have b_r1 := below_trans b_r1 hb_w2 b_r1.size
    clear hb_w2
    have r2 := o_r2.row
    have b_r2 := Below.refl w2.heap.size w2
    obtain ⟨bp_0, bp_1, bp_2, bp_3, bp_4, bp_5, bp_6, bp_7, bp_8, bp_9, bp_f⟩ := id bp
    clear b_r1 r1
    go_wp2_with fail
    have b_rw := below_ten (b := w1.heap.size) b_rw (by omega) (.int .i64 q0.pct) (.int .u64 (q0.least : Nat)) (.int .u64 (q0.live : Nat)) (.bool q0.on) (.int .u64 (q0.est : Nat)) (.int .u64 (q0.room : Nat)) (.int .u64 (q0.credit : Nat)) (.int .u64 (q0.done : Nat)) (.int .u64 (q0.made : Nat)) (.slice A2 q0.ds.length c2)
    have o_r2 := o_r2.ten (g := w1.heap.size) (.inl (by first | omega | (simp only [World.size_alloc, size_ten]; omega))) (.int .i64 q0.pct) (.int .u64 (q0.least : Nat)) (.int .u64 (q0.live : Nat)) (.bool q0.on) (.int .u64 (q0.est : Nat)) (.int .u64 (q0.room : Nat)) (.int .u64 (q0.credit : Nat)) (.int .u64 (q0.done : Nat)) (.int .u64 (q0.made : Nat)) (.slice A2 q0.ds.length c2)
    have r2 := o_r2.row
    have b_r2 := Below.refl (((((((((((w2.setCell ⟨w1.heap.size, 0, none⟩ (.int .i64 q0.pct)).setCell ⟨w1.heap.size, 1, none⟩ (.int .u64 (q0.least : Nat))).setCell ⟨w1.heap.size, 2, none⟩ (.int .u64 (q0.live : Nat))).setCell ⟨w1.heap.size, 3, none⟩ (.bool q0.on)).setCell ⟨w1.heap.size, 4, none⟩ (.int .u64 (q0.est : Nat))).setCell ⟨w1.heap.size, 5, none⟩ (.int .u64 (q0.room : Nat))).setCell ⟨w1.heap.size, 6, none⟩ (.int .u64 (q0.credit : Nat))).setCell ⟨w1.heap.size, 7, none⟩ (.int .u64 (q0.done : Nat))).setCell ⟨w1.heap.size, 8, none⟩ (.int .u64 (q0.made : Nat))).setCell ⟨w1.heap.size, 9, none⟩ (.slice A2 q0.ds.length c2))).heap.size ((((((((((w2.setCell ⟨w1.heap.size, 0, none⟩ (.int .i64 q0.pct)).setCell ⟨w1.heap.size, 1, none⟩ (.int .u64 (q0.least : Nat))).setCell ⟨w1.heap.size, 2, none⟩ (.int .u64 (q0.live : Nat))).setCell ⟨w1.heap.size, 3, none⟩ (.bool q0.on)).setCell ⟨w1.heap.size, 4, none⟩ (.int .u64 (q0.est : Nat))).setCell ⟨w1.heap.size, 5, none⟩ (.int .u64 (q0.room : Nat))).setCell ⟨w1.heap.size, 6, none⟩ (.int .u64 (q0.credit : Nat))).setCell ⟨w1.heap.size, 7, none⟩ (.int .u64 (q0.done : Nat))).setCell ⟨w1.heap.size, 8, none⟩ (.int .u64 (q0.made : Nat))).setCell ⟨w1.heap.size, 9, none⟩ (.slice A2 q0.ds.length c2))
    have bp := bp.all (.int .i64 q0.pct) (.int .u64 (q0.least : Nat)) (.int .u64 (q0.live : Nat)) (.bool q0.on) (.int .u64 (q0.est : Nat)) (.int .u64 (q0.room : Nat)) (.int .u64 (q0.credit : Nat)) (.int .u64 (q0.done : Nat)) (.int .u64 (q0.made : Nat)) (.slice A2 q0.ds.length c2)
    generalize hW0 : ((((((((((w2.setCell ⟨w1.heap.size, 0, none⟩ (.int .i64 q0.pct)).setCell ⟨w1.heap.size, 1, none⟩ (.int .u64 (q0.least : Nat))).setCell ⟨w1.heap.size, 2, none⟩ (.int .u64 (q0.live : Nat))).setCell ⟨w1.heap.size, 3, none⟩ (.bool q0.on)).setCell ⟨w1.heap.size, 4, none⟩ (.int .u64 (q0.est : Nat))).setCell ⟨w1.heap.size, 5, none⟩ (.int .u64 (q0.room : Nat))).setCell ⟨w1.heap.size, 6, none⟩ (.int .u64 (q0.credit : Nat))).setCell ⟨w1.heap.size, 7, none⟩ (.int .u64 (q0.done : Nat))).setCell ⟨w1.heap.size, 8, none⟩ (.int .u64 (q0.made : Nat))).setCell ⟨w1.heap.size, 9, none⟩ (.slice A2 q0.ds.length c2)) = W at *
    have o_r2 := o_r2.mono (show w1.heap.size + 1 ≤ _ by (try simp only [World.size_alloc]); omega)
    clear hW0
    go_loopw [47] (fun ii wr => ∃ (k : Nat) (q : Pc) (S : Nat) (A : Option Addr) (c : Nat), ii = .int .i64 (k : Nat) ∧ k ≤ l.length ∧ k ≤ 60 ∧ Hid (Paid q S) ∧ Hid (PBox wr w1.heap.size q A c) ∧ Hid (OwnD wr (w1.heap.size + 1) A c q.ds) ∧ Hid (Below w.heap.size w wr)) (fun ii _ => l.length - (intOf ii).toNat)
    case atStart => exact ⟨0, q0, 0, A2, c2, rfl, Nat.zero_le _, by omega, HP0, Lib.hid bp, Lib.hid o_r2, Lib.hid b_rw⟩
    case round =>
      obtain ⟨k, q, SS, A, c, rfl, hkl, hk60, HPd, HB, HO, HBl⟩ := hrel
      have b_rw := HBl.out
      by_cases hlt : k < l.length
      · obtain ⟨sb, so, rfl, hsb, hcc⟩ := (hs.keep b_rw) (by omega)
        obtain ⟨a1, a2, a3, cc0, cc1, cc2⟩ := hcc k hlt
        obtain ⟨sq, hsq⟩ : ∃ sq, Hid (nthQ l k = sq) := ⟨_, rfl⟩
        rw [hsq.out] at a1 a2 a3 cc0 cc1 cc2
        obtain ⟨wh, wd, st⟩ := sq
        simp only at a1 a2 a3 cc0 cc1 cc2
        clear hcc
        have i1 : (k : Int) < (l.length : Int) := by omega
        have i2 : (0 : Int) ≤ (k : Int) := by omega
        have bp := HB.out
        unfold PBox at bp
        have o_r0 := HO.out
        have hlen3 : q.ds.length = 3 := by rw [HPd.out.ds]; rfl
        by_cases h60 : k = 60
        · subst h60
          go_wp2
          go_ret
          exact ⟨rfl, b_rw.alloc b_rw.size _⟩
        have f60 : ((k : Int) == 60) = false := by simp; omega
        obtain ⟨r, hr⟩ : ∃ r, wh % 3 = r := ⟨_, rfl⟩
        obtain ⟨n, hn⟩ : ∃ n, st % 1000 = n := ⟨_, rfl⟩
        obtain ⟨x, hx⟩ : ∃ x, wd % 1048576 = x := ⟨_, rfl⟩
        have r1 : (wh : Int) % 3 = (r : Int) := by omega
        have r2 : (wh : Int).tmod 3 = (r : Int) := by rw [Int.tmod_eq_emod_of_nonneg (by omega)]; exact r1
        have r3 : IntKind.u8.wrap (r : Int) = (r : Int) := by rw [IntKind.wrap_u8]; omega
        have r4 : IntKind.i64.wrap (r : Int) = (r : Int) := by rw [IntWalk.i64_in _ (by omega)]
        have n1 : (st : Int) % 1000 = (n : Int) := by omega
        have n2 : (st : Int).tmod 1000 = (n : Int) := by rw [Int.tmod_eq_emod_of_nonneg (by omega)]; exact n1
        have n3 : IntKind.u64.wrap (n : Int) = (n : Int) := by rw [IntKind.wrap_u64]; omega
        have x1 : (wd : Int) % 1048576 = (x : Int) := by omega
        have x2 : (wd : Int).tmod 1048576 = (x : Int) := by rw [Int.tmod_eq_emod_of_nonneg (by omega)]; exact x1
        have x3 : IntKind.u64.wrap (x : Int) = (x : Int) := by rw [IntKind.wrap_u64]; omega
        have hr3 : r < 3 := by omega
        have hnM : n ≤ 1099511627776 := by omega
        have hxM : x ≤ 1048576 := by omega
        clear hr hn hx h60
        obtain ⟨oo, hoo⟩ : ∃ oo, oo = debtP (wrkN q n) r x - min (debtP (wrkN q n) r x) (wrkN q n).credit := ⟨_, rfl⟩
        obtain ⟨hoM, hz, S2, hP2⟩ := HPd.out.next n r x hr3 oo hoo
        have okq := HPd.out.ok
        have onq := HPd.out.on
        have ok1 : OkP (wrkN q n) := by have := (wrk_ok okq onq (-1) [n]).1; simpa [wrk, wrk1] using this
        have ok2 := allP_ok ok1 onq r x
        have HW1 := Lib.hid fun (w : World) (A : Option Addr) (c : Nat) (S : Option Addr) hr hn hs => pworkX_any (w := w) (p := q) (A := A) (S := S) (l := [n]) c 1 okq.fit hr (by omega) hn hs (by simp) (-1) (wrkN q n) 0 (.inr (.inr (.inr (.inr ⟨okq, by omega, by omega, onq, allM_one hnM, by simp [wrk, wrk1], rfl⟩))))
        have HA1 := Lib.hid fun (w : World) (A : Option Addr) (c : Nat) hr hn => pallocX_any (w := w) (p := wrkN q n) (A := A) c ok1.fit hr (by show q.ds.length ≤ _; omega) hn (r : Int) x (allP (wrkN q n) r x) oo 0 (.inr (.inr (.inr (.inr ⟨r, rfl, by show r < q.ds.length; omega, ok1, hxM, onq, rfl, hoo, rfl⟩))))
        have HW2 := Lib.hid fun (w : World) (A : Option Addr) (c : Nat) (S : Option Addr) hr hn hs => pworkX_any (w := w) (p := allP (wrkN q n) r x) (A := A) (S := S) (l := [oo]) c 1 ok2.fit hr (by simp only [allP, List.length_set]; show q.ds.length ≤ _; omega) hn hs (by simp) (r : Int) (wrkK (allP (wrkN q n) r x) r oo) 0 (.inr (.inr (.inr (.inr ⟨ok2, by omega, by simp only [allP, List.length_set]; show (r : Int) < (q.ds.length : Int); omega, onq, allM_one hoM, by simp only [wrk, wrk1]; rw [if_neg (by omega)]; simp, rfl⟩))))
        have HP2 := Lib.hid hP2
        have HZ := Lib.hid hz
        have e1 : (wrkN q n).ds.length = 3 := hlen3
        have e2 : (allP (wrkN q n) r x).ds.length = 3 := by simp only [allP, List.length_set]; exact hlen3
        have e3 : (wrkK (allP (wrkN q n) r x) r oo).ds.length = 3 := by simp only [wrkK, List.length_set]; exact e2
        have E1 := Lib.hid e1; have E2 := Lib.hid e2; have E3 := Lib.hid e3; have E0 := Lib.hid hlen3
        have HCk := Lib.hid fun (w : World) (A : Option Addr) (c : Nat) hr => pcheck_anyP (w := w) (p := wrkK (allP (wrkN q n) r x) r oo) (A := A) c hP2.ok.fit hr (by omega) 0 (.inl ⟨hP2.ok, rfl⟩)
        generalize wrkK (allP (wrkN q n) r x) r oo = q3 at *
        generalize allP (wrkN q n) r x = q2 at *
        generalize wrkN q n = q1 at *
        have HOM := Lib.hid hoM
        clear hoo hz hP2 okq onq ok1 ok2 e1 e2 e3 hlen3 hoM
        have bp_lt := bp.lt
        have N0 := o_r0.nil
        have rr0 := o_r0.row
        have b_rr0 := Below.refl wr.heap.size wr
        obtain ⟨bp_0, bp_1, bp_2, bp_3, bp_4, bp_5, bp_6, bp_7, bp_8, bp_9, bp_f⟩ := id bp
        have bp := bp.later ((Below.refl _ _).alloc (Nat.le_refl _) (.cells #[.int .u8 (wh : Nat), .int .u64 (wd : Nat), .int .u64 (st : Nat)] 46))
        have b_rw : Below w.heap.size w (wr.alloc (.cells #[.int .u8 (wh : Nat), .int .u64 (wd : Nat), .int .u64 (st : Nat)] 46)) := b_rw.alloc (by first | omega | (simp only [World.size_alloc, size_ten]; omega)) _
        have b_rr0 : Below wr.heap.size wr (wr.alloc (.cells #[.int .u8 (wh : Nat), .int .u64 (wd : Nat), .int .u64 (st : Nat)] 46)) := b_rr0.alloc (by first | omega | (simp only [World.size_alloc, size_ten]; omega)) _
        have bp := bp.later ((Below.refl _ _).alloc (Nat.le_refl _) (.cells #[.int .u64 (n : Nat)] 22))
        have b_rw : Below w.heap.size w ((wr.alloc (.cells #[.int .u8 (wh : Nat), .int .u64 (wd : Nat), .int .u64 (st : Nat)] 46)).alloc (.cells #[.int .u64 (n : Nat)] 22)) := b_rw.alloc (by first | omega | (simp only [World.size_alloc, size_ten]; omega)) _
        have b_rr0 : Below wr.heap.size wr ((wr.alloc (.cells #[.int .u8 (wh : Nat), .int .u64 (wd : Nat), .int .u64 (st : Nat)] 46)).alloc (.cells #[.int .u64 (n : Nat)] 22)) := b_rr0.alloc (by first | omega | (simp only [World.size_alloc, size_ten]; omega)) _
        go_wp2_with fail
        go_at_call 26
        refine (HW1.out _ A c _ (by exact rr0.later b_rr0) N0 (by exact row_one2 (by unfold W64; omega) (by simp only [World.size_alloc]))).mono ?_
        rintro e w5 ⟨A5, c5, rfl, o_r5, hb_w5⟩
        clear bp_0 bp_1 bp_2 bp_3 bp_4 bp_5 bp_6 bp_7 bp_8 bp_9 bp_f
        have s_w5 := hb_w5.size
        (try simp only [World.size_alloc, size_ten] at s_w5)
        have bp := bp.later hb_w5
        have bp_lt := bp.lt
        have b_rw := below_trans b_rw hb_w5 b_rw.size
        have b_rr0 := below_trans b_rr0 hb_w5 b_rr0.size
        have sc1 : w5.cell? ⟨wr.heap.size, 1, none⟩ = some (.int .u64 (wd : Nat)) := (hb_w5.cell (p := ⟨wr.heap.size, 1, none⟩) (by simp only [World.size_alloc]; omega)).trans (by simp [go_sem])
        clear hb_w5
        have r5 := o_r5.row
        have b_r5 := Below.refl w5.heap.size w5
        obtain ⟨bp_0, bp_1, bp_2, bp_3, bp_4, bp_5, bp_6, bp_7, bp_8, bp_9, bp_f⟩ := id bp
        have N5 := o_r5.nil
        have wr_lt : wr.heap.size < w5.heap.size := by omega
        have bp := bp.later ((Below.refl _ _).alloc (Nat.le_refl _) (.cells #[.int .i64 q1.pct, .int .u64 (q1.least : Nat), .int .u64 (q1.live : Nat), .bool q1.on, .int .u64 (q1.est : Nat), .int .u64 (q1.room : Nat), .int .u64 (q1.credit : Nat), .int .u64 (q1.done : Nat), .int .u64 (q1.made : Nat), .slice A5 q1.ds.length c5] 25))
        have b_rw : Below w.heap.size w (w5.alloc (.cells #[.int .i64 q1.pct, .int .u64 (q1.least : Nat), .int .u64 (q1.live : Nat), .bool q1.on, .int .u64 (q1.est : Nat), .int .u64 (q1.room : Nat), .int .u64 (q1.credit : Nat), .int .u64 (q1.done : Nat), .int .u64 (q1.made : Nat), .slice A5 q1.ds.length c5] 25)) := b_rw.alloc (by first | omega | (simp only [World.size_alloc, size_ten]; omega)) _
        have b_rr0 : Below wr.heap.size wr (w5.alloc (.cells #[.int .i64 q1.pct, .int .u64 (q1.least : Nat), .int .u64 (q1.live : Nat), .bool q1.on, .int .u64 (q1.est : Nat), .int .u64 (q1.room : Nat), .int .u64 (q1.credit : Nat), .int .u64 (q1.done : Nat), .int .u64 (q1.made : Nat), .slice A5 q1.ds.length c5] 25)) := b_rr0.alloc (by first | omega | (simp only [World.size_alloc, size_ten]; omega)) _
        have b_r5 : Below w5.heap.size w5 (w5.alloc (.cells #[.int .i64 q1.pct, .int .u64 (q1.least : Nat), .int .u64 (q1.live : Nat), .bool q1.on, .int .u64 (q1.est : Nat), .int .u64 (q1.room : Nat), .int .u64 (q1.credit : Nat), .int .u64 (q1.done : Nat), .int .u64 (q1.made : Nat), .slice A5 q1.ds.length c5] 25)) := b_r5.alloc (by first | omega | (simp only [World.size_alloc, size_ten]; omega)) _
        have bq := Ten.new w5 (.int .i64 q1.pct) (.int .u64 (q1.least : Nat)) (.int .u64 (q1.live : Nat)) (.bool q1.on) (.int .u64 (q1.est : Nat)) (.int .u64 (q1.room : Nat)) (.int .u64 (q1.credit : Nat)) (.int .u64 (q1.done : Nat)) (.int .u64 (q1.made : Nat)) (.slice A5 q1.ds.length c5) 25
        (try simp only [World.size_alloc, size_ten] at bq)
        go_wp2_with fail
        go_at_call 24
        refine (HA1.out _ A5 c5 (by exact r5.later b_r5) N5).mono ?_
        rintro e w6 ⟨A6, c6, rfl, o_r6, hb_w6⟩
        clear bp_0 bp_1 bp_2 bp_3 bp_4 bp_5 bp_6 bp_7 bp_8 bp_9 bp_f
        have s_w6 := hb_w6.size
        (try simp only [World.size_alloc, size_ten] at s_w6)
        have bp := bp.later hb_w6
        have bp_lt := bp.lt
        have bq := bq.later hb_w6
        have bq_lt := bq.lt
        have b_rw := below_trans b_rw hb_w6 b_rw.size
        have b_rr0 := below_trans b_rr0 hb_w6 b_rr0.size
        have b_r5 := below_trans b_r5 hb_w6 b_r5.size
        clear hb_w6
        have r6 := o_r6.row
        have b_r6 := Below.refl w6.heap.size w6
        obtain ⟨bq_0, bq_1, bq_2, bq_3, bq_4, bq_5, bq_6, bq_7, bq_8, bq_9, bq_f⟩ := id bq
        have N6 := o_r6.nil
        clear b_r5 r5
        have bp := bp.over (g := w5.heap.size) (by omega) (.int .i64 q2.pct) (.int .u64 (q2.least : Nat)) (.int .u64 (q2.live : Nat)) (.bool q2.on) (.int .u64 (q2.est : Nat)) (.int .u64 (q2.room : Nat)) (.int .u64 (q2.credit : Nat)) (.int .u64 (q2.done : Nat)) (.int .u64 (q2.made : Nat)) (.slice A6 q2.ds.length c6)
        have b_rw := below_ten (b := w5.heap.size) b_rw (by omega) (.int .i64 q2.pct) (.int .u64 (q2.least : Nat)) (.int .u64 (q2.live : Nat)) (.bool q2.on) (.int .u64 (q2.est : Nat)) (.int .u64 (q2.room : Nat)) (.int .u64 (q2.credit : Nat)) (.int .u64 (q2.done : Nat)) (.int .u64 (q2.made : Nat)) (.slice A6 q2.ds.length c6)
        have b_rr0 := below_ten (b := w5.heap.size) b_rr0 (by omega) (.int .i64 q2.pct) (.int .u64 (q2.least : Nat)) (.int .u64 (q2.live : Nat)) (.bool q2.on) (.int .u64 (q2.est : Nat)) (.int .u64 (q2.room : Nat)) (.int .u64 (q2.credit : Nat)) (.int .u64 (q2.done : Nat)) (.int .u64 (q2.made : Nat)) (.slice A6 q2.ds.length c6)
        have o_r6 := o_r6.ten (g := w5.heap.size) (.inl (by first | omega | (simp only [World.size_alloc, size_ten]; omega))) (.int .i64 q2.pct) (.int .u64 (q2.least : Nat)) (.int .u64 (q2.live : Nat)) (.bool q2.on) (.int .u64 (q2.est : Nat)) (.int .u64 (q2.room : Nat)) (.int .u64 (q2.credit : Nat)) (.int .u64 (q2.done : Nat)) (.int .u64 (q2.made : Nat)) (.slice A6 q2.ds.length c6)
        have r6 := o_r6.row
        have b_r6 := Below.refl (((((((((((w6.setCell ⟨w5.heap.size, 0, none⟩ (.int .i64 q2.pct)).setCell ⟨w5.heap.size, 1, none⟩ (.int .u64 (q2.least : Nat))).setCell ⟨w5.heap.size, 2, none⟩ (.int .u64 (q2.live : Nat))).setCell ⟨w5.heap.size, 3, none⟩ (.bool q2.on)).setCell ⟨w5.heap.size, 4, none⟩ (.int .u64 (q2.est : Nat))).setCell ⟨w5.heap.size, 5, none⟩ (.int .u64 (q2.room : Nat))).setCell ⟨w5.heap.size, 6, none⟩ (.int .u64 (q2.credit : Nat))).setCell ⟨w5.heap.size, 7, none⟩ (.int .u64 (q2.done : Nat))).setCell ⟨w5.heap.size, 8, none⟩ (.int .u64 (q2.made : Nat))).setCell ⟨w5.heap.size, 9, none⟩ (.slice A6 q2.ds.length c6))).heap.size ((((((((((w6.setCell ⟨w5.heap.size, 0, none⟩ (.int .i64 q2.pct)).setCell ⟨w5.heap.size, 1, none⟩ (.int .u64 (q2.least : Nat))).setCell ⟨w5.heap.size, 2, none⟩ (.int .u64 (q2.live : Nat))).setCell ⟨w5.heap.size, 3, none⟩ (.bool q2.on)).setCell ⟨w5.heap.size, 4, none⟩ (.int .u64 (q2.est : Nat))).setCell ⟨w5.heap.size, 5, none⟩ (.int .u64 (q2.room : Nat))).setCell ⟨w5.heap.size, 6, none⟩ (.int .u64 (q2.credit : Nat))).setCell ⟨w5.heap.size, 7, none⟩ (.int .u64 (q2.done : Nat))).setCell ⟨w5.heap.size, 8, none⟩ (.int .u64 (q2.made : Nat))).setCell ⟨w5.heap.size, 9, none⟩ (.slice A6 q2.ds.length c6))
        have bq := bq.all (.int .i64 q2.pct) (.int .u64 (q2.least : Nat)) (.int .u64 (q2.live : Nat)) (.bool q2.on) (.int .u64 (q2.est : Nat)) (.int .u64 (q2.room : Nat)) (.int .u64 (q2.credit : Nat)) (.int .u64 (q2.done : Nat)) (.int .u64 (q2.made : Nat)) (.slice A6 q2.ds.length c6)
        have bp := bp.later ((Below.refl _ _).alloc (Nat.le_refl _) (.cells #[.int .u64 (oo : Nat)] 22))
        have bq := bq.later ((Below.refl _ _).alloc (Nat.le_refl _) (.cells #[.int .u64 (oo : Nat)] 22))
        have b_rw : Below w.heap.size w (((((((((((w6.setCell ⟨w5.heap.size, 0, none⟩ (.int .i64 q2.pct)).setCell ⟨w5.heap.size, 1, none⟩ (.int .u64 (q2.least : Nat))).setCell ⟨w5.heap.size, 2, none⟩ (.int .u64 (q2.live : Nat))).setCell ⟨w5.heap.size, 3, none⟩ (.bool q2.on)).setCell ⟨w5.heap.size, 4, none⟩ (.int .u64 (q2.est : Nat))).setCell ⟨w5.heap.size, 5, none⟩ (.int .u64 (q2.room : Nat))).setCell ⟨w5.heap.size, 6, none⟩ (.int .u64 (q2.credit : Nat))).setCell ⟨w5.heap.size, 7, none⟩ (.int .u64 (q2.done : Nat))).setCell ⟨w5.heap.size, 8, none⟩ (.int .u64 (q2.made : Nat))).setCell ⟨w5.heap.size, 9, none⟩ (.slice A6 q2.ds.length c6)).alloc (.cells #[.int .u64 (oo : Nat)] 22)) := b_rw.alloc (by first | omega | (simp only [World.size_alloc, size_ten]; omega)) _
        have b_rr0 : Below wr.heap.size wr (((((((((((w6.setCell ⟨w5.heap.size, 0, none⟩ (.int .i64 q2.pct)).setCell ⟨w5.heap.size, 1, none⟩ (.int .u64 (q2.least : Nat))).setCell ⟨w5.heap.size, 2, none⟩ (.int .u64 (q2.live : Nat))).setCell ⟨w5.heap.size, 3, none⟩ (.bool q2.on)).setCell ⟨w5.heap.size, 4, none⟩ (.int .u64 (q2.est : Nat))).setCell ⟨w5.heap.size, 5, none⟩ (.int .u64 (q2.room : Nat))).setCell ⟨w5.heap.size, 6, none⟩ (.int .u64 (q2.credit : Nat))).setCell ⟨w5.heap.size, 7, none⟩ (.int .u64 (q2.done : Nat))).setCell ⟨w5.heap.size, 8, none⟩ (.int .u64 (q2.made : Nat))).setCell ⟨w5.heap.size, 9, none⟩ (.slice A6 q2.ds.length c6)).alloc (.cells #[.int .u64 (oo : Nat)] 22)) := b_rr0.alloc (by first | omega | (simp only [World.size_alloc, size_ten]; omega)) _
        have b_r6 : Below ((((((((((w6.setCell ⟨w5.heap.size, 0, none⟩ (.int .i64 q2.pct)).setCell ⟨w5.heap.size, 1, none⟩ (.int .u64 (q2.least : Nat))).setCell ⟨w5.heap.size, 2, none⟩ (.int .u64 (q2.live : Nat))).setCell ⟨w5.heap.size, 3, none⟩ (.bool q2.on)).setCell ⟨w5.heap.size, 4, none⟩ (.int .u64 (q2.est : Nat))).setCell ⟨w5.heap.size, 5, none⟩ (.int .u64 (q2.room : Nat))).setCell ⟨w5.heap.size, 6, none⟩ (.int .u64 (q2.credit : Nat))).setCell ⟨w5.heap.size, 7, none⟩ (.int .u64 (q2.done : Nat))).setCell ⟨w5.heap.size, 8, none⟩ (.int .u64 (q2.made : Nat))).setCell ⟨w5.heap.size, 9, none⟩ (.slice A6 q2.ds.length c6)).heap.size ((((((((((w6.setCell ⟨w5.heap.size, 0, none⟩ (.int .i64 q2.pct)).setCell ⟨w5.heap.size, 1, none⟩ (.int .u64 (q2.least : Nat))).setCell ⟨w5.heap.size, 2, none⟩ (.int .u64 (q2.live : Nat))).setCell ⟨w5.heap.size, 3, none⟩ (.bool q2.on)).setCell ⟨w5.heap.size, 4, none⟩ (.int .u64 (q2.est : Nat))).setCell ⟨w5.heap.size, 5, none⟩ (.int .u64 (q2.room : Nat))).setCell ⟨w5.heap.size, 6, none⟩ (.int .u64 (q2.credit : Nat))).setCell ⟨w5.heap.size, 7, none⟩ (.int .u64 (q2.done : Nat))).setCell ⟨w5.heap.size, 8, none⟩ (.int .u64 (q2.made : Nat))).setCell ⟨w5.heap.size, 9, none⟩ (.slice A6 q2.ds.length c6)) (((((((((((w6.setCell ⟨w5.heap.size, 0, none⟩ (.int .i64 q2.pct)).setCell ⟨w5.heap.size, 1, none⟩ (.int .u64 (q2.least : Nat))).setCell ⟨w5.heap.size, 2, none⟩ (.int .u64 (q2.live : Nat))).setCell ⟨w5.heap.size, 3, none⟩ (.bool q2.on)).setCell ⟨w5.heap.size, 4, none⟩ (.int .u64 (q2.est : Nat))).setCell ⟨w5.heap.size, 5, none⟩ (.int .u64 (q2.room : Nat))).setCell ⟨w5.heap.size, 6, none⟩ (.int .u64 (q2.credit : Nat))).setCell ⟨w5.heap.size, 7, none⟩ (.int .u64 (q2.done : Nat))).setCell ⟨w5.heap.size, 8, none⟩ (.int .u64 (q2.made : Nat))).setCell ⟨w5.heap.size, 9, none⟩ (.slice A6 q2.ds.length c6)).alloc (.cells #[.int .u64 (oo : Nat)] 22)) := b_r6.alloc (by first | omega | (simp only [World.size_alloc, size_ten]; omega)) _
        go_wp2_with fail
        go_at_call 26
        refine (HW2.out _ A6 c6 _ (by exact r6.later b_r6) N6 (by exact row_one2 (by have := HOM.out; unfold W64; omega) (by simp only [size_ten]))).mono ?_
        rintro e w7 ⟨A7, c7, rfl, o_r7, hb_w7⟩
        clear bq_0 bq_1 bq_2 bq_3 bq_4 bq_5 bq_6 bq_7 bq_8 bq_9 bq_f
        have s_w7 := hb_w7.size
        (try simp only [World.size_alloc, size_ten] at s_w7)
        have bp := bp.later hb_w7
        have bp_lt := bp.lt
        have bq := bq.later hb_w7
        have bq_lt := bq.lt
        have b_rw := below_trans b_rw hb_w7 b_rw.size
        have b_rr0 := below_trans b_rr0 hb_w7 b_rr0.size
        have b_r6 := below_trans b_r6 hb_w7 b_r6.size
        clear hb_w7
        have r7 := o_r7.row
        have b_r7 := Below.refl w7.heap.size w7
        obtain ⟨bq_0, bq_1, bq_2, bq_3, bq_4, bq_5, bq_6, bq_7, bq_8, bq_9, bq_f⟩ := id bq
        clear b_r6 r6
        have bp := bp.over (g := w5.heap.size) (by omega) (.int .i64 q3.pct) (.int .u64 (q3.least : Nat)) (.int .u64 (q3.live : Nat)) (.bool q3.on) (.int .u64 (q3.est : Nat)) (.int .u64 (q3.room : Nat)) (.int .u64 (q3.credit : Nat)) (.int .u64 (q3.done : Nat)) (.int .u64 (q3.made : Nat)) (.slice A7 q3.ds.length c7)
        have b_rw := below_ten (b := w5.heap.size) b_rw (by omega) (.int .i64 q3.pct) (.int .u64 (q3.least : Nat)) (.int .u64 (q3.live : Nat)) (.bool q3.on) (.int .u64 (q3.est : Nat)) (.int .u64 (q3.room : Nat)) (.int .u64 (q3.credit : Nat)) (.int .u64 (q3.done : Nat)) (.int .u64 (q3.made : Nat)) (.slice A7 q3.ds.length c7)
        have b_rr0 := below_ten (b := w5.heap.size) b_rr0 (by omega) (.int .i64 q3.pct) (.int .u64 (q3.least : Nat)) (.int .u64 (q3.live : Nat)) (.bool q3.on) (.int .u64 (q3.est : Nat)) (.int .u64 (q3.room : Nat)) (.int .u64 (q3.credit : Nat)) (.int .u64 (q3.done : Nat)) (.int .u64 (q3.made : Nat)) (.slice A7 q3.ds.length c7)
        have o_r7 := o_r7.ten (g := w5.heap.size) (.inl (by first | omega | (simp only [World.size_alloc, size_ten]; omega))) (.int .i64 q3.pct) (.int .u64 (q3.least : Nat)) (.int .u64 (q3.live : Nat)) (.bool q3.on) (.int .u64 (q3.est : Nat)) (.int .u64 (q3.room : Nat)) (.int .u64 (q3.credit : Nat)) (.int .u64 (q3.done : Nat)) (.int .u64 (q3.made : Nat)) (.slice A7 q3.ds.length c7)
        have r7 := o_r7.row
        have b_r7 := Below.refl (((((((((((w7.setCell ⟨w5.heap.size, 0, none⟩ (.int .i64 q3.pct)).setCell ⟨w5.heap.size, 1, none⟩ (.int .u64 (q3.least : Nat))).setCell ⟨w5.heap.size, 2, none⟩ (.int .u64 (q3.live : Nat))).setCell ⟨w5.heap.size, 3, none⟩ (.bool q3.on)).setCell ⟨w5.heap.size, 4, none⟩ (.int .u64 (q3.est : Nat))).setCell ⟨w5.heap.size, 5, none⟩ (.int .u64 (q3.room : Nat))).setCell ⟨w5.heap.size, 6, none⟩ (.int .u64 (q3.credit : Nat))).setCell ⟨w5.heap.size, 7, none⟩ (.int .u64 (q3.done : Nat))).setCell ⟨w5.heap.size, 8, none⟩ (.int .u64 (q3.made : Nat))).setCell ⟨w5.heap.size, 9, none⟩ (.slice A7 q3.ds.length c7))).heap.size ((((((((((w7.setCell ⟨w5.heap.size, 0, none⟩ (.int .i64 q3.pct)).setCell ⟨w5.heap.size, 1, none⟩ (.int .u64 (q3.least : Nat))).setCell ⟨w5.heap.size, 2, none⟩ (.int .u64 (q3.live : Nat))).setCell ⟨w5.heap.size, 3, none⟩ (.bool q3.on)).setCell ⟨w5.heap.size, 4, none⟩ (.int .u64 (q3.est : Nat))).setCell ⟨w5.heap.size, 5, none⟩ (.int .u64 (q3.room : Nat))).setCell ⟨w5.heap.size, 6, none⟩ (.int .u64 (q3.credit : Nat))).setCell ⟨w5.heap.size, 7, none⟩ (.int .u64 (q3.done : Nat))).setCell ⟨w5.heap.size, 8, none⟩ (.int .u64 (q3.made : Nat))).setCell ⟨w5.heap.size, 9, none⟩ (.slice A7 q3.ds.length c7))
        have bq := bq.all (.int .i64 q3.pct) (.int .u64 (q3.least : Nat)) (.int .u64 (q3.live : Nat)) (.bool q3.on) (.int .u64 (q3.est : Nat)) (.int .u64 (q3.room : Nat)) (.int .u64 (q3.credit : Nat)) (.int .u64 (q3.done : Nat)) (.int .u64 (q3.made : Nat)) (.slice A7 q3.ds.length c7)
        obtain ⟨g7, hA7, hB7, hg7, hc7⟩ := o_r7.own.at_ (by rw [E3.out]; omega)
        obtain ⟨d0, d0f⟩ := hc7 r (by rw [E3.out]; exact hr3)
        rw [HZ.out] at d0
        subst hA7
        have j1 : (r : Int) < (q3.ds.length : Int) := by rw [E3.out]; omega
        have j2 : (0 : Int) ≤ (r : Int) := by omega
        have j3 : q3.ds.length ≤ c7 := o_r7.cap
        clear hc7
        go_wp2_with fail
        go_at_call 17
        refine (HCk.out _ _ c7 (by exact r7.later b_r7)).mono ?_
        rintro e w8 ⟨rfl, hb_w8⟩
        clear bq_0 bq_1 bq_2 bq_3 bq_4 bq_5 bq_6 bq_7 bq_8 bq_9 bq_f
        have s_w8 := hb_w8.size
        (try simp only [World.size_alloc, size_ten] at s_w8)
        have bp := bp.later hb_w8
        have bp_lt := bp.lt
        have bq := bq.later hb_w8
        have bq_lt := bq.lt
        have b_rw := below_trans b_rw hb_w8 b_rw.size
        have b_rr0 := below_trans b_rr0 hb_w8 b_rr0.size
        have b_r7 := below_trans b_r7 hb_w8 b_r7.size
        have o_r7 := o_r7.later hb_w8
        clear hb_w8
        obtain ⟨bp_0, bp_1, bp_2, bp_3, bp_4, bp_5, bp_6, bp_7, bp_8, bp_9, bp_f⟩ := id bp
        obtain ⟨bq_0, bq_1, bq_2, bq_3, bq_4, bq_5, bq_6, bq_7, bq_8, bq_9, bq_f⟩ := id bq
        have z1 := bp.all (.int .i64 q3.pct) (.int .u64 (q3.least : Nat)) (.int .u64 (q3.live : Nat)) (.bool q3.on) (.int .u64 (q3.est : Nat)) (.int .u64 (q3.room : Nat)) (.int .u64 (q3.credit : Nat)) (.int .u64 (q3.done : Nat)) (.int .u64 (q3.made : Nat)) (.slice (some ⟨g7, 0, none⟩) q3.ds.length c7)
        have z2 := o_r7.ten (g := w1.heap.size) (.inl (by (try simp only [World.size_alloc, size_ten] at hB7 ⊢); omega)) (.int .i64 q3.pct) (.int .u64 (q3.least : Nat)) (.int .u64 (q3.live : Nat)) (.bool q3.on) (.int .u64 (q3.est : Nat)) (.int .u64 (q3.room : Nat)) (.int .u64 (q3.credit : Nat)) (.int .u64 (q3.done : Nat)) (.int .u64 (q3.made : Nat)) (.slice (some ⟨g7, 0, none⟩) q3.ds.length c7)
        have z2 := z2.mono (show w1.heap.size + 1 ≤ _ by (try simp only [World.size_alloc, size_ten]); omega)
        have z3 := below_ten (b := w1.heap.size) b_rw (by omega) (.int .i64 q3.pct) (.int .u64 (q3.least : Nat)) (.int .u64 (q3.live : Nat)) (.bool q3.on) (.int .u64 (q3.est : Nat)) (.int .u64 (q3.room : Nat)) (.int .u64 (q3.credit : Nat)) (.int .u64 (q3.done : Nat)) (.int .u64 (q3.made : Nat)) (.slice (some ⟨g7, 0, none⟩) q3.ds.length c7)
        have Z1 := Lib.hid z1; have Z2 := Lib.hid z2; have Z3 := Lib.hid z3
        have H60 : k < 60 := by have := f60; simp at this; omega
        clear z1 z2 z3 bq b_rr0 b_r7 o_r0 o_r5 o_r6 o_r7 s_w5 s_w6
        by_cases h1 : q3.room ≤ q3.made
        · by_cases h2 : q3.done < q3.est
          · have h3 : decide ((q3.done : Int) < 1099511627776) = false := by have := HP2.out.enough h1 h2; simp; omega
            go_wp2
            go_roundw
            case rel => exact ⟨k + 1, q3, S2, some ⟨g7, 0, none⟩, c7, by go_num, by omega, by omega, HP2, Z1, Z2, Z3⟩
            case measure => simp [intOf]; omega
          · go_wp2
            go_roundw
            case rel => exact ⟨k + 1, q3, S2, some ⟨g7, 0, none⟩, c7, by go_num, by omega, by omega, HP2, Z1, Z2, Z3⟩
            case measure => simp [intOf]; omega
        · go_wp2
          go_roundw
          case rel => exact ⟨k + 1, q3, S2, some ⟨g7, 0, none⟩, c7, by go_num, by omega, by omega, HP2, Z1, Z2, Z3⟩
          case measure => simp [intOf]; omega
      · go_wp2
        go_ret
        exact ⟨rfl, b_rw⟩
  · have HMk := Lib.hid fun (w : World) => pmakeP_any (w := w) pct 1 3 hp1 hp2 (by unfold W64; omega) Pc.zero 1 (.inr (.inl ⟨3, rfl, by omega, by omega, hk, rfl, rfl⟩))
    simp only [Pc.zero, List.length_nil] at HMk
    have HBe := Lib.hid fun (w : World) (A : Option Addr) (c : Nat) hr hn => pbeginX_any (w := w) (p := { Pc.zero with live := lv }) (A := A) c ⟨by simp [Pc.zero], by simp [Pc.zero], by simp [Pc.zero, W64], by unfold W64; simp only [Pc.zero]; omega, by simp [Pc.zero, W64], by simp [Pc.zero, W64], by simp [Pc.zero, W64], by simp [Pc.zero, W64], by simp [Pc.zero, W64], fun x hx => by simp [Pc.zero] at hx⟩ hr (by simp [Pc.zero]) hn hp Pc.zero 2 (.inl ⟨fun h => absurd h.pct1 (by simp [Pc.zero]), rfl, rfl⟩)
    simp only [Pc.zero, List.length_nil] at HBe
    clear hk
    go_enter Try.func6, Try.ntmps6
    have rw := hs
    have b_rw := Below.refl w.heap.size w
    go_wp2_with fail
    go_at_call 15
    refine (HLv.out _).mono ?_
    rintro e w0 ⟨rfl, hb_w0⟩
    have s_w0 := hb_w0.size
    (try simp only [World.size_alloc, size_ten] at s_w0)
    have b_rw := below_trans b_rw hb_w0 b_rw.size
    clear hb_w0
    go_wp2_with fail
    go_at_call 13
    refine (HMk.out _).mono ?_
    rintro e w1 ⟨A1, c1, rfl, o_r1, hb_w1⟩
    have s_w1 := hb_w1.size
    (try simp only [World.size_alloc, size_ten] at s_w1)
    have b_rw := below_trans b_rw hb_w1 b_rw.size
    clear hb_w1
    have r1 := o_r1.row
    have b_r1 := Below.refl w1.heap.size w1
    have n1 := o_r1.nil
    have b_rw : Below w.heap.size w (w1.alloc (.cells #[.int .i64 0, .int .u64 0, .int .u64 (lv : Nat), .bool false, .int .u64 0, .int .u64 0, .int .u64 0, .int .u64 0, .int .u64 0, .slice A1 0 c1] 25)) := b_rw.alloc (by first | omega | (simp only [World.size_alloc, size_ten]; omega)) _
    have b_r1 : Below w1.heap.size w1 (w1.alloc (.cells #[.int .i64 0, .int .u64 0, .int .u64 (lv : Nat), .bool false, .int .u64 0, .int .u64 0, .int .u64 0, .int .u64 0, .int .u64 0, .slice A1 0 c1] 25)) := b_r1.alloc (by first | omega | (simp only [World.size_alloc, size_ten]; omega)) _
    have bp := Ten.new w1 (.int .i64 0) (.int .u64 0) (.int .u64 (lv : Nat)) (.bool false) (.int .u64 0) (.int .u64 0) (.int .u64 0) (.int .u64 0) (.int .u64 0) (.slice A1 0 c1) 25
    (try simp only [World.size_alloc, size_ten] at bp)
    go_wp2_with fail
    go_at_call 20
    refine (HBe.out _ A1 c1 (by exact r1.later b_r1) n1).mono ?_
    rintro e w2 ⟨A2, c2, rfl, o_r2, hb_w2⟩
    have s_w2 := hb_w2.size
    (try simp only [World.size_alloc, size_ten] at s_w2)
    have bp := bp.later hb_w2
    have bp_lt := bp.lt
    have b_rw := below_trans b_rw hb_w2 b_rw.size
    have b_r1 := below_trans b_r1 hb_w2 b_r1.size
    clear hb_w2
    have r2 := o_r2.row
    have b_r2 := Below.refl w2.heap.size w2
    obtain ⟨bp_0, bp_1, bp_2, bp_3, bp_4, bp_5, bp_6, bp_7, bp_8, bp_9, bp_f⟩ := id bp
    go_wp2
    go_ret
    exact ⟨rfl, below_ten b_rw (by omega) _ _ _ _ _ _ _ _ _ _⟩
end
end Go.Proofs.Ytkdbcoibapcmjaa
