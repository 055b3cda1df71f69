/- Parts of the proof. -/
import Derived.Test.YtafpkaifaccehaaGreatDoorScavP2
import Derived.Laws.OwnMore
import Derived.Laws.Rows
import Derived.Deep.Draws
set_option linter.unusedVariables false
set_option linter.unusedSimpArgs false
namespace Go.Proofs.YtafpkaifaccehaaGreatDoor
open Go.RowKit
structure Row (w:World) (B:Nat) (A:Option Addr) (ws:List Nat):Prop where
 words:Words ws
 at_:0 < ws.length → ∃ b off,A=some ⟨b,off,none⟩∧b < B∧∀ i,i < ws.length → w.cell? ⟨b,off + i,none⟩=some (.int .u64 (ws.getD i 0:Nat))
theorem Row.keep {w w':World} {B:Nat} {A:Option Addr} {ws:List Nat} (h:Row w B A ws) (hk:∀ b o,b < B → w'.cell? ⟨b,o,none⟩=w.cell? ⟨b,o,none⟩):Row w' B A ws:=
 ⟨h.words,fun hl=>by
  obtain ⟨b,off,e,hb,hc⟩:=h.at_ hl
  exact ⟨b,off,e,hb,fun i hi=>(hk _ _ hb).trans (hc i hi)⟩⟩
theorem Row.more {w:World} {B B':Nat} {A:Option Addr} {ws:List Nat} (h:Row w B A ws) (hB:B ≤ B'):Row w B' A ws:=
 ⟨h.words,fun hl=>by
  obtain ⟨b,off,e,hb,hc⟩:=h.at_ hl
  exact ⟨b,off,e,by omega,hc⟩⟩
theorem Row.below {w w':World} {B:Nat} {A:Option Addr} {ws:List Nat} (h:Row w B A ws) (hb:Below B w w'):Row w' B A ws:=
 h.keep fun b o hlt=>hb.cell (p:=⟨b,o,none⟩) hlt
theorem Row.later {w w':World} {A:Option Addr} {ws:List Nat} (h:Row w w.heap.size A ws) (hb:Below w.heap.size w w'):Row w' w'.heap.size A ws:=
 (h.below hb).more hb.size
theorem below_drewN {B:Nat} {a w:World} (h:Below B a w) (n:Nat):Below B a (w.drewN n):=⟨h.os,h.tape,h.output,h.size,h.block⟩
theorem below_trans {B B':Nat} {a b c:World} (h:Below B a b) (k:Below B' b c) (hB:B ≤ B'):Below B a c:=h.trans (k.mono hB)
theorem bR (B:Nat) (a:World):Below B a a:=Below.refl B a
theorem bN {B:Nat} {a w:World} (h:Below B a w) (n:Nat):Below B a (w.drewN n):=below_drewN h n
theorem bD {B:Nat} {a w:World} (h:Below B a w):Below B a w.drew:=Below.drew h
theorem bA {B:Nat} {a w:World} (h:Below B a w) (hB:B ≤ w.heap.size) (o:Obj):Below B a (w.alloc o):=Below.alloc h hB o
theorem bS {B:Nat} {a w:World} {p:Addr} (h:Below B a w) (hB:B ≤ p.block) (u:Value):Below B a (w.setCell p u):=Below.setCell h hB u
theorem bT {B B':Nat} {a b c:World} (h:Below B a b) (k:Below B' b c) (hB:B ≤ B'):Below B a c:=below_trans h k hB
theorem zA (w:World) (o:Obj):(w.alloc o).heap.size=w.heap.size + 1:=by simp only [World.size_alloc]
theorem zS (w:World) (p:Addr) (u:Value):(w.setCell p u).heap.size=w.heap.size:=by simp only [World.size_setCell]
theorem zD (w:World):w.drew.heap.size=w.heap.size:=rfl
theorem zN (w:World) (n:Nat):(w.drewN n).heap=w.heap:=rfl
theorem zZ:(∀ (w:World) (o:Obj),(w.alloc o).heap.size=w.heap.size + 1)∧(∀ (w:World) (p:Addr) (u:Value),(w.setCell p u).heap.size=w.heap.size)∧(∀ w:World,w.drew.heap.size=w.heap.size)∧(∀ (w:World) (n:Nat),(w.drewN n).heap=w.heap):=⟨zA,zS,zD,zN⟩
theorem cO (w:World) (a b:Addr) (v:Value) (h:a ≠ b):(w.setCell a v).cell? b=w.cell? b:=World.cell?_setCell_other w a b v h
theorem lX {P:Prop} (h:P:=by first | omega | (simp;omega) | simp):P:=h
theorem bX {B:Nat} {a w:World} (h:Below B a w:=by repeat (first | exact Below.refl _ _ | assumption | (refine below_drewN ?_ _) | (refine Below.drew ?_) | (refine Below.alloc ?_ lX _) | (refine Below.setCell ?_ lX _) | (refine below_trans ?_ (by assumption) lX))):Below B a w:=h
theorem kX {P:Prop} (h:P:=by first | assumption | (simp [go_sem];done) | exact (World.cell?_alloc_lt _ _ ⟨_,_,_⟩ lX).trans (by assumption)):P:=h
theorem kZ {P:Prop} (h:P:=by first | assumption | (simp [go_sem];done) | exact (World.cell?_alloc_lt _ _ ⟨_,_,_⟩ lX).trans (by assumption) | exact (World.cell?_alloc_lt _ _ ⟨_,_,_⟩ lX).trans ((World.cell?_alloc_lt _ _ ⟨_,_,_⟩ lX).trans (by assumption))):P:=h
theorem cX {B:Nat} {w w':World} {p:Addr} {u:Value} (hb:Below B w w') (hp:p.block < B:=by first | omega | (simp;omega) | simp) (h:w.cell? p=some u:=by first | assumption | (simp [go_sem];done) | exact (World.cell?_alloc_lt _ _ ⟨_,_,_⟩ lX).trans (by assumption)):w'.cell? p=some u:=(hb.cell hp).trans h
theorem kS {P:Prop} (h:P:=by ((try dsimp only);(repeat' apply And.intro) <;> first | assumption | (simp [go_sem];done) | exact (World.cell?_alloc_lt _ _ ⟨_,_,_⟩ lX).trans (by assumption))):P:=h
theorem kY {P:Prop} (h:P:=by first | assumption | (simp [go_sem];done)):P:=h
theorem lY {P Q:Prop} (q:Q) (h:Q → P:=by (intro hzz;(try simp only [World.size_alloc,World.size_setCell,World.size_drew,World.heap_drewN] at hzz);omega)):P:=h q
theorem bcell {B:Nat} {W w1:World} (hb:Below B W w1):(∀ b o,b < B → w1.cell? ⟨b,o,none⟩=W.cell? ⟨b,o,none⟩)∧(∀ b o,b < B → w1.frozen? ⟨b,o,none⟩=W.frozen? ⟨b,o,none⟩):=
 ⟨fun b o h=>hb.cell (p:=⟨b,o,none⟩) h,fun b o h=>hb.frozen (p:=⟨b,o,none⟩) h⟩
section
variable (n:Int) (A:Option Addr) (len cap:Nat) (w:World)
theorem check_neg (h:n < 0) :
  Calls Tryz.prog 213 #[.agg #[.int .i64 n,.slice A len cap]] w fun e w'=>e=.returned (.int .i64 2)∧Below w.heap.size w w':=by
 go_enter Tryz.func213,Tryz.ntmps213
 go_wp2
 go_quiet ((go_at_call 196;exact q_left (wordsFor_any _ _ (by omega) (by omega))))
 go_wp2
 go_ret
 exact ⟨rfl,bX⟩
theorem check_big (h0:0 ≤ n) (h:4096 < n) :
  Calls Tryz.prog 213 #[.agg #[.int .i64 n,.slice A len cap]] w fun e w'=>e=.returned (.int .i64 2)∧Below w.heap.size w w':=by
 have hd:decide (n < 0)=false:=by simpa using h0
 go_enter Tryz.func213,Tryz.ntmps213
 go_wp2
 go_quiet ((go_at_call 196;exact q_left (wordsFor_any _ _ (by omega) (by omega))))
 go_wp2
 go_ret
 exact ⟨rfl,bX⟩
theorem check_len (h0:0 ≤ n) (h1:n ≤ 4096) (h:(len:Int) ≠ (n + 63) / 64) :
  Calls Tryz.prog 213 #[.agg #[.int .i64 n,.slice A len cap]] w fun e w'=>e=.returned (.int .i64 2)∧Below w.heap.size w w':=by
 have hd:decide (n < 0)=false:=by simpa using h0
 have hd2:decide (4096 < n)=false:=by simpa using h1
 have hd3:((len:Int) != (n + 63) / 64)=true:=by simpa using h
 clear h
 go_enter Tryz.func213,Tryz.ntmps213
 go_wp2
 go_quiet ((go_at_call 196;exact q_left (wordsFor_any _ _ (by omega) (by omega))))
 go_wp2
 go_ret
 exact ⟨rfl,bX⟩
theorem check_even (h0:0 ≤ n) (h1:n ≤ 4096) (h:(len:Int)=(n + 63) / 64) (he:n % 64=0) :
  Calls Tryz.prog 213 #[.agg #[.int .i64 n,.slice A len cap]] w fun e w'=>e=.returned (.int .i64 0)∧Below w.heap.size w w':=by
 have hd:decide (n < 0)=false:=by simpa using h0
 have hd2:decide (4096 < n)=false:=by simpa using h1
 have hd3:((len:Int) != (n + 63) / 64)=false:=by simpa using h
 have hd4:(n % 64 != 0)=false:=by simpa using he
 clear h he
 go_enter Tryz.func213,Tryz.ntmps213
 go_wp2
 go_quiet ((go_at_call 196;exact q_left (wordsFor_any _ _ (by omega) (by omega))))
 go_wp2
 go_ret
 exact ⟨rfl,bX⟩
theorem check_odd (b off x:Nat) (t:Bool) (h0:0 ≤ n) (h1:n ≤ 4096) (h:(len:Int)=(n + 63) / 64) (he:n % 64 ≠ 0) (hb:b < w.heap.size)
  (hc:w.cell? ⟨b,off + (len - 1),none⟩=some (.int .u64 x)) (ht:((x:Int) / 2 ^ (n % 64).toNat != 0)=t) :
  Calls Tryz.prog 213 #[.agg #[.int .i64 n,.slice (some ⟨b,off,none⟩) len cap]] w fun e w'=>e=.returned (.int .i64 (if t then 2 else 0))∧Below w.heap.size w w':=by
 have hd:decide (n < 0)=false:=by simpa using h0
 have hd2:decide (4096 < n)=false:=by simpa using h1
 have hd3:((len:Int) != (n + 63) / 64)=false:=by simpa using h
 have hd4:(n % 64 != 0)=true:=by simpa using he
 have hl:0 < len∧len ≤ 64:=by omega
 clear h he
 cases t
 all_goals
  go_enter Tryz.func213,Tryz.ntmps213
  go_wp2
  go_quiet ((go_at_call 196;exact q_left (wordsFor_any _ _ (by omega) (by omega))))
  go_wp2
  go_ret
  exact ⟨rfl,bX⟩
end
theorem check_ok {n:Int} {A:Option Addr} {ws:List Nat} {w:World} (cap:Nat) (hr:Row w w.heap.size A ws) (h:Right n ws) :
  Calls Tryz.prog 213 #[.agg #[.int .i64 n,.slice A ws.length cap]] w fun e w'=>e=.returned (.int .i64 0)∧Below w.heap.size w w':=by
 obtain ⟨h0,h1,h2,h3⟩:=h
 by_cases he:n % 64=0
 ·exact check_even n A _ cap w h0 h1 (by omega) he
 ·obtain ⟨b,off,rfl,hb,hc⟩:=hr.at_ (by omega)
  refine check_odd n _ cap w b off _ false h0 h1 (by omega) he hb (hc (ws.length - 1) (by omega)) ?_
  rw [shr_form]
  have ht:=(tail_right n.toNat ws hr.words h2 (by omega)).2 h3
  rw [show (n % 64).toNat=n.toNat % 64 by omega,ht]
  rfl
theorem check_bad {n:Int} {A:Option Addr} {ws:List Nat} {w:World} (cap:Nat) (hr:Row w w.heap.size A ws) (h:¬ Right n ws) :
  Calls Tryz.prog 213 #[.agg #[.int .i64 n,.slice A ws.length cap]] w fun e w'=>e=.returned (.int .i64 2)∧Below w.heap.size w w':=by
 by_cases h0:n < 0
 ·exact check_neg n A _ cap w h0
 by_cases h1:4096 < n
 ·exact check_big n A _ cap w (by omega) h1
 by_cases h2:(ws.length:Int)=(n + 63) / 64
 ·by_cases he:n % 64=0
  ·exact absurd ⟨by omega,by omega,by omega,fun i _ _=>by omega⟩ h
  ·obtain ⟨b,off,rfl,hb,hc⟩:=hr.at_ (by omega)
   refine check_odd n _ cap w b off _ true (by omega) (by omega) (by omega) he hb (hc (ws.length - 1) (by omega)) ?_
   rw [shr_form,bne_iff_ne]
   intro hz
   rw [show (n % 64).toNat=n.toNat % 64 by omega] at hz
   exact h ⟨by omega,by omega,by omega,(tail_right n.toNat ws hr.words (by omega) (by omega)).1 hz⟩
 ·exact check_len n A _ cap w (by omega) (by omega) h2
end Go.Proofs.YtafpkaifaccehaaGreatDoor
