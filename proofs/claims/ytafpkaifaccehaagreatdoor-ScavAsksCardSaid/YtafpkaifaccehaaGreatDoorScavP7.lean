/- Parts of the proof. -/
import Derived.Test.YtafpkaifaccehaaGreatDoorScavP6
import Derived.Deep.AppendLies
import Derived.Laws.ResultCell
set_option linter.unusedVariables false
set_option linter.unusedSimpArgs false
namespace Go.Proofs.YtafpkaifaccehaaGreatDoor
open Go.RowKit
theorem res_one {fn:Func} {p:Tmp} (h:fn.results=#[.cell p 26]) {tmps:Array Value} {w:World} {g:Nat} {v0 v1:Value} (hp:tmps.getD p undef=.pointer (some ⟨g,0,none⟩))
  (h0:w.cell? ⟨g,0,none⟩=some v0) (h1:w.cell? ⟨g,1,none⟩=some v1):(results fn tmps).run Tryz.prog w=.ok (.agg #[v0,v1]) w:=by
 have hp2:tmps[p]?.getD undef=.pointer (some ⟨g,0,none⟩):=by rw [← hp];simp
 simp only [results,h]
 simp [go_sem,Result.andThen,h0,h1,asAddr,hp2]
def Copied (w:World) (n:Int) (ws:List Nat) (e:Ending) (w':World):Prop:=
 ∃ A cap,e=.returned (.agg #[.int .i64 n,.slice A ws.length cap])∧Own w' w.heap.size A ws∧Below w.heap.size w w'
theorem copy_nil (n:Int) (A:Option Addr) (cap:Nat) (w:World) :
  Calls Tryz.prog 133 #[.agg #[.int .i64 n,.slice A 0 cap]] w fun e w'=>Copied w n [] e w':=by
 cases A
 all_goals
  go_enter Tryz.func133,Tryz.ntmps133
  go_wp2
  go_region
  all_goals
   go_wp2
   exact bodyPost_ret (res_one rfl rfl (g:=w.heap.size + 1) (by simp [go_sem] <;> rfl) (by simp [go_sem] <;> rfl)) rfl ⟨_,0,rfl,⟨fun x hx=>by simp at hx,fun h=>by simp at h⟩,bX⟩
theorem copy_some (n:Int) (b off cap:Nat) (ws:List Nat) (w:World) (hr:Row w w.heap.size (some ⟨b,off,none⟩) ws) (h0:0 < ws.length) (hm:ws.length ≤ 17592186044416) :
  Calls Tryz.prog 133 #[.agg #[.int .i64 n,.slice (some ⟨b,off,none⟩) ws.length cap]] w fun e w'=>Copied w n ws e w':=by
 obtain ⟨i0,hi,hz0,hz1,hz2⟩:=info_parts info_u64
 go_enter Tryz.func133,Tryz.ntmps133
 go_wp2
 go_region_law ((refine step_append_lies _ rfl (.tmp 5) (.tmp 7) 22 rfl (w.heap.size + 2) 32 i0 _ 1 8 Tryz.underlying22 hi hz0 hz1 hz2 rfl (by omega) (.slice (some ⟨w.heap.size + 1 + 1,0,none⟩) 0 0) 0 [] (by simp [Act.eval,Act.put]) (own_empty w _ _ _ rfl) ⟨b,off,none⟩ ws.length cap (vals ws) (by simp [Act.eval,Act.put]) (by simp [vals]) (hr.src2 bX) (vals_one ws) h0 (by unfold maxLen;omega) (by omega) (by simp) _ rfl ?_;intro g cap2 w2 hown2 hg2 hat2 hlt2;simp only [Nat.zero_add,List.nil_append] at hown2;have hb_w2:Below (w.heap.size + 2) _ w2:=(Below.refl _ _).grown hg2 lX (fun k hk=>(by simp [Value.ownBlock] at hk;omega));obtain ⟨hc_w2,hf_w2⟩:=bcell hb_w2;have hz_w2_w_0:w.heap.size < w2.heap.size:=lY hb_w2.size;have hz_w2_w_1:w.heap.size + 1 < w2.heap.size:=lY hb_w2.size))
 all_goals
  go_wp2
  have k0:w2.cell? ⟨w.heap.size + 1,0,none⟩=_:=(hc_w2 _ _ lX).trans (by simp [go_sem];rfl)
  have k1:w2.cell? ⟨w.heap.size + 1,1,none⟩=_:=(hc_w2 _ _ lX).trans (by simp [go_sem];rfl)
  have ho:=Own.of_owns hown2 hr.words
  exact bodyPost_ret (res_one rfl rfl (set_two _ _ k0 k1).1 (set_two _ _ k0 k1).2) rfl ⟨_,cap2,rfl,((ho.far (.inl lX) _).far (.inl lX) _).mono lX,bX⟩
theorem copy_any (n:Int) {A:Option Addr} (cap:Nat) {ws:List Nat} {w:World} (hr:Row w w.heap.size A ws) (hm:ws.length ≤ 17592186044416) :
  Calls Tryz.prog 133 #[.agg #[.int .i64 n,.slice A ws.length cap]] w fun e w'=>Copied w n ws e w':=by
 by_cases h0:0 < ws.length
 ·obtain ⟨b,off,rfl,_,_⟩:=hr.at_ h0
  exact copy_some n b off cap ws w hr h0 hm
 ·obtain rfl:ws=[]:=List.eq_nil_of_length_eq_zero (by omega)
  exact copy_nil n A cap w
theorem Own.put {w:World} {B g:Nat} {A:Option Addr} {ws:List Nat} (h:Own w B A ws) {i:Int} (v:Bool) (hA:A=some ⟨g,0,none⟩) (h0:0 ≤ i) (hi:i < 64 * ws.length) {x:Nat} (hx:ws.getD (i / 64).toNat 0=x) :
  Own (w.setCell ⟨g,(i / 64).toNat,none⟩ (.int .u64 (setBit x (i % 64).toNat v:Nat))) B A (putW ws i.toNat v):=by
 have:=h.set_ hA (i:=(i / 64).toNat) (x:=setBit x (i % 64).toNat v) (by omega) (setBit_lt _ _ _ (by rw [← hx];exact h.words.at_ _) (by omega))
 unfold putW
 rw [show i.toNat / 64=(i / 64).toNat by omega,show i.toNat % 64=(i % 64).toNat by omega,hx]
 exact this
theorem Own.two {w:World} {B g:Nat} {A:Option Addr} {ws:List Nat} {u v:Value} (h:Own w B A ws) (hg:g < B):Own ((w.setCell ⟨g,0,none⟩ u).setCell ⟨g,1,none⟩ v) B A ws:=
 (h.far (p:=⟨g,0,none⟩) (.inl hg) u).far (p:=⟨g,1,none⟩) (.inl hg) v
theorem Own.drewN {w:World} {B:Nat} {A:Option Addr} {ws:List Nat} (h:Own w B A ws) (n:Nat):Own (w.drewN n) B A ws:=h.later (below_drewN (Below.refl _ _) n)
section
variable {N:Int} {A:Option Addr} {ws:List Nat} {w:World} (cap:Nat) (a c:Int) (v:Bool)
theorem fill_bad (hr:Row w w.heap.size A ws) (h:¬ Right N ws) :
  Calls Tryz.prog 182 #[.agg #[.int .i64 N,.slice A ws.length cap],.int .i64 a,.int .i64 c,.bool v] w fun e w'=>Fresh w 0 [] 2 e w':=by
 have hR:=Lib.hid h
 clear h
 go_enter Tryz.func182,Tryz.ntmps182
 go_wp2_with (go_at_call 233;refine (twin_bad _ (hr.later bX) hR.out).mono ?_;rintro e w1 ⟨A1,cap1,rfl,ho1,hb_w1⟩;obtain ⟨hc_w1,hf_w1⟩:=bcell hb_w1;have hz_w1_w_0:w.heap.size < w1.heap.size:=lY hb_w1.size;have hz_w1_w_1:w.heap.size + 1 < w1.heap.size:=lY hb_w1.size)
 have k0:w1.cell? ⟨w.heap.size + 1,0,none⟩=_:=(hc_w1 _ _ lX).trans (by simp [go_sem];rfl)
 have k1:w1.cell? ⟨w.heap.size + 1,1,none⟩=_:=(hc_w1 _ _ lX).trans (by simp [go_sem];rfl)
 exact bodyPost_ret (res_bits rfl rfl ((World.cell?_alloc_lt _ _ ⟨_,_,_⟩ lX).trans (set_two _ _ k0 k1).1) ((World.cell?_alloc_lt _ _ ⟨_,_,_⟩ lX).trans (set_two _ _ k0 k1).2)) rfl ⟨none,0,rfl,Own.nil _ _,bX⟩
theorem fill_out (hr:Row w w.heap.size A ws) (h:Right N ws) (h63:a ≤ 9223372036854775807) (hi:¬ (0 ≤ a∧0 ≤ c∧c ≤ N - a)) :
  Calls Tryz.prog 182 #[.agg #[.int .i64 N,.slice A ws.length cap],.int .i64 a,.int .i64 c,.bool v] w fun e w'=>Fresh w N ws 1 e w':=by
 have hn:=h.1
 have hn2:=h.2.1
 have hR:=Lib.hid h
 clear h
 by_cases h0:a < 0
 ·have hd:decide (a < 0)=true:=by simpa using h0
  clear hi
  go_enter Tryz.func182,Tryz.ntmps182
  go_wp2_with (go_at_call 233;refine (twin_ok _ (hr.later bX) hR.out).mono ?_;rintro e w1 ⟨A1,cap1,rfl,ho1,hb_w1⟩;obtain ⟨hc_w1,hf_w1⟩:=bcell hb_w1;have hz_w1_w_0:w.heap.size < w1.heap.size:=lY hb_w1.size;have hz_w1_w_1:w.heap.size + 1 < w1.heap.size:=lY hb_w1.size)
  have k0:w1.cell? ⟨w.heap.size + 1,0,none⟩=_:=(hc_w1 _ _ lX).trans (by simp [go_sem];rfl)
  have k1:w1.cell? ⟨w.heap.size + 1,1,none⟩=_:=(hc_w1 _ _ lX).trans (by simp [go_sem];rfl)
  exact bodyPost_ret (res_bits rfl rfl ((World.cell?_alloc_lt _ _ ⟨_,_,_⟩ lX).trans (set_two _ _ k0 k1).1) ((World.cell?_alloc_lt _ _ ⟨_,_,_⟩ lX).trans (set_two _ _ k0 k1).2)) rfl ⟨_,cap1,rfl,((ho1.two (g:=w.heap.size + 1) lX).later bX).mono lX,bX⟩
 ·have hd:decide (a < 0)=false:=by simpa using h0
  by_cases h1:c < 0
  ·have hd1:decide (c < 0)=true:=by simpa using h1
   clear hi
   go_enter Tryz.func182,Tryz.ntmps182
   go_wp2_with (go_at_call 233;refine (twin_ok _ (hr.later bX) hR.out).mono ?_;rintro e w1 ⟨A1,cap1,rfl,ho1,hb_w1⟩;obtain ⟨hc_w1,hf_w1⟩:=bcell hb_w1;have hz_w1_w_0:w.heap.size < w1.heap.size:=lY hb_w1.size;have hz_w1_w_1:w.heap.size + 1 < w1.heap.size:=lY hb_w1.size)
   have k0:w1.cell? ⟨w.heap.size + 1,0,none⟩=_:=(hc_w1 _ _ lX).trans (by simp [go_sem];rfl)
   have k1:w1.cell? ⟨w.heap.size + 1,1,none⟩=_:=(hc_w1 _ _ lX).trans (by simp [go_sem];rfl)
   exact bodyPost_ret (res_bits rfl rfl ((World.cell?_alloc_lt _ _ ⟨_,_,_⟩ lX).trans (set_two _ _ k0 k1).1) ((World.cell?_alloc_lt _ _ ⟨_,_,_⟩ lX).trans (set_two _ _ k0 k1).2)) rfl ⟨_,cap1,rfl,((ho1.two (g:=w.heap.size + 1) lX).later bX).mono lX,bX⟩
  ·have hd1:decide (c < 0)=false:=by simpa using h1
   have hd2:decide (N - a < c)=true:=by simp;omega
   clear hi
   go_enter Tryz.func182,Tryz.ntmps182
   go_wp2_with (go_at_call 233;refine (twin_ok _ (hr.later bX) hR.out).mono ?_;rintro e w1 ⟨A1,cap1,rfl,ho1,hb_w1⟩;obtain ⟨hc_w1,hf_w1⟩:=bcell hb_w1;have hz_w1_w_0:w.heap.size < w1.heap.size:=lY hb_w1.size;have hz_w1_w_1:w.heap.size + 1 < w1.heap.size:=lY hb_w1.size)
   have k0:w1.cell? ⟨w.heap.size + 1,0,none⟩=_:=(hc_w1 _ _ lX).trans (by simp [go_sem];rfl)
   have k1:w1.cell? ⟨w.heap.size + 1,1,none⟩=_:=(hc_w1 _ _ lX).trans (by simp [go_sem];rfl)
   exact bodyPost_ret (res_bits rfl rfl ((World.cell?_alloc_lt _ _ ⟨_,_,_⟩ lX).trans (set_two _ _ k0 k1).1) ((World.cell?_alloc_lt _ _ ⟨_,_,_⟩ lX).trans (set_two _ _ k0 k1).2)) rfl ⟨_,cap1,rfl,((ho1.two (g:=w.heap.size + 1) lX).later bX).mono lX,bX⟩
set_option maxHeartbeats 400000 in
theorem fill_in (hr:Row w w.heap.size A ws) (h:Right N ws) (h0:0 ≤ a) (h1:0 ≤ c) (h2:c ≤ N - a) :
  Calls Tryz.prog 182 #[.agg #[.int .i64 N,.slice A ws.length cap],.int .i64 a,.int .i64 c,.bool v] w fun e w'=>Fresh w N (fillW ws a.toNat c.toNat v) 0 e w':=by
 have hn:=h.1
 have hn2:=h.2.1
 have hl:=h.long
 have hl2:ws.length ≤ 64:=by have:=h.2.2.1;omega
 have hR:=Lib.hid h
 clear h
 have hd:decide (a < 0)=false:=by simpa using h0
 have hd1:decide (c < 0)=false:=by simpa using h1
 have hd2:decide (N - a < c)=false:=by simpa using h2
 go_enter Tryz.func182,Tryz.ntmps182
 go_wp2_with (go_at_call 233;refine (twin_ok _ (hr.later bX) hR.out).mono ?_;rintro e w1 ⟨A1,cap1,rfl,ho1,hb_w1⟩;obtain ⟨hc_w1,hf_w1⟩:=bcell hb_w1;have hz_w1_w_0:w.heap.size < w1.heap.size:=lY hb_w1.size;have hz_w1_w_1:w.heap.size + 1 < w1.heap.size:=lY hb_w1.size)
 simp only [zA] at ho1
 go_loopw [40] (fun i wr=>∃ k:Nat,i=.int .i64 k∧(k:Int) ≤ c∧Own wr (w.heap.size + 1 + 1) A1 (fillW ws a.toNat k v)∧wr.cell? ⟨w1.heap.size,0,none⟩=some (.int .i64 N)∧wr.cell? ⟨w1.heap.size,1,none⟩=some (.slice A1 ws.length cap1) ∧
   w1.heap.size < wr.heap.size∧Below (w.heap.size + 1 + 1) w1 wr) (fun i _=>c.toNat - (intOf i).toNat)
 case atStart=>exact ⟨0,rfl,h1,ho1.later bX,by simp [go_sem],by simp [go_sem],by simp,bX⟩
 case round=>
  obtain ⟨k,rfl,hk,hO,hv0,hv1,hsz,hb_wr⟩:=hrel
  obtain ⟨hc_wr,hf_wr⟩:=bcell hb_wr
  by_cases hlt:(k:Int) < c
  ·obtain ⟨g,rfl,hBg,hg,_⟩:=ho1.at_ (by omega)
   obtain ⟨x,hx⟩:=named (fillW ws a.toNat k v) ((a + k) / 64).toNat
   have hlk:(fillW ws a.toNat k v).length=ws.length:=length_fillW _ _ _ _
   have hxl:x < W64:=by rw [← hx.out];exact hO.words.at_ _
   obtain ⟨g',hA',_,_,hcg⟩:=hO.at_ (by omega)
   injection hA' with hA'
   injection hA' with hA'
   subst hA'
   obtain ⟨hcx,hfx⟩:=hcg ((a + k) / 64).toNat (by omega)
   rw [hx.out] at hcx
   have HL:=Lib.hid hlk
   clear hcg hlk
   go_wp2_with (go_at_call 234;refine (set_any (a + k) v w1.heap.size g 0 ws.length cap1 x _ (by omega) (by omega) hl2 hxl hv1 (by rw [Nat.zero_add];exact hcx) (by rw [Nat.zero_add];exact hfx)).mono ?_;rintro e w2 ⟨rfl,n2,rfl⟩)
   go_roundw
   case rel=>
    have hP:=((hO.put (i:=a + k) v rfl (by omega) (by have:=HL.out;omega) hx.out).drewN n2)
    rw [show (a + (k:Int)).toNat=a.toNat + k by omega] at hP
    exact ⟨k + 1,by go_num,by omega,hP,(cO _ _ _ _ (by intro e;injection e;omega)).trans hv0,(cO _ _ _ _ (by intro e;injection e;omega)).trans hv1,by simpa using hsz,bX⟩
   case measure=>simp [intOf];omega
  ·go_wp2
   have hkc:c.toNat=k:=by omega
   rw [hkc]
   have k0:wr.cell? ⟨w.heap.size + 1,0,none⟩=_:=(hc_wr _ _ lX).trans ((hc_w1 _ _ lX).trans (by simp [go_sem];rfl))
   have k1:wr.cell? ⟨w.heap.size + 1,1,none⟩=_:=(hc_wr _ _ lX).trans ((hc_w1 _ _ lX).trans (by simp [go_sem];rfl))
   exact bodyPost_ret (res_bits rfl rfl (set_two _ _ k0 k1).1 (set_two _ _ k0 k1).2) rfl ⟨A1,cap1,by rw [length_fillW];rfl,(hO.two (g:=w.heap.size + 1) lX).mono lX,bX⟩
theorem put_in (i:Int) (hr:Row w w.heap.size A ws) (h:Right N ws) (h0:0 ≤ i) (h1:i < N) :
  Calls Tryz.prog 123 #[.agg #[.int .i64 N,.slice A ws.length cap],.int .i64 i,.bool v] w fun e w'=>Fresh w N (putW ws i.toNat v) 0 e w':=by
 have hR:=Lib.hid h
 clear h
 have e1:putW ws i.toNat v=fillW ws i.toNat (1:Int).toNat v:=rfl
 rw [e1]
 clear e1
 go_enter Tryz.func123,Tryz.ntmps123
 go_wp2_with (go_at_call 182;refine (fill_in _ _ _ _ (hr.later bX) hR.out h0 (by omega) (by omega)).mono ?_;rintro e w1 ⟨A1,cap1,rfl,ho1,hb_w1⟩;obtain ⟨hc_w1,hf_w1⟩:=bcell hb_w1;have hz_w1_w_0:w.heap.size < w1.heap.size:=lY hb_w1.size;have hz_w1_w_1:w.heap.size + 1 < w1.heap.size:=lY hb_w1.size)
 have k0:w1.cell? ⟨w.heap.size + 1,0,none⟩=_:=(hc_w1 _ _ lX).trans (by simp [go_sem];rfl)
 have k1:w1.cell? ⟨w.heap.size + 1,1,none⟩=_:=(hc_w1 _ _ lX).trans (by simp [go_sem];rfl)
 exact bodyPost_ret (res_bits rfl rfl (set_two _ _ k0 k1).1 (set_two _ _ k0 k1).2) rfl ⟨A1,cap1,rfl,(ho1.two (g:=w.heap.size + 1) lX).mono lX,bX⟩
end
theorem right_len {N:Int} {ws:List Nat} (h:Right N ws):ws.length ≤ 64:=by have:=h.2.2.1;have:=h.2.1;omega
structure Two (w:World) (g:Nat) (v0 v1:Value):Prop where
 c0:w.cell? ⟨g,0,none⟩=some v0
 c1:w.cell? ⟨g,1,none⟩=some v1
 fr:∀ i,w.frozen? ⟨g,i,none⟩=false
theorem Two.set_ {w:World} {g:Nat} {u0 u1:Value} (h:Two w g u0 u1) (v0 v1:Value):Two ((w.setCell ⟨g,0,none⟩ v0).setCell ⟨g,1,none⟩ v1) g v0 v1:=
 ⟨(set_two v0 v1 h.c0 h.c1).1,(set_two v0 v1 h.c0 h.c1).2,fun i=>by rw [World.frozen?_setCell,World.frozen?_setCell];exact h.fr i⟩
theorem Two.far {w:World} {g g':Nat} {u0 u1:Value} (h:Two w g u0 u1) (hne:g' ≠ g) (v0 v1:Value):Two ((w.setCell ⟨g',0,none⟩ v0).setCell ⟨g',1,none⟩ v1) g u0 u1:=
 ⟨(cO _ _ _ _ (by intro e;injection e;omega)).trans ((cO _ _ _ _ (by intro e;injection e;omega)).trans h.c0),
  (cO _ _ _ _ (by intro e;injection e;omega)).trans ((cO _ _ _ _ (by intro e;injection e;omega)).trans h.c1),fun i=>by rw [World.frozen?_setCell,World.frozen?_setCell];exact h.fr i⟩
theorem Two.below {w w':World} {g B:Nat} {u0 u1:Value} (h:Two w g u0 u1) (hb:Below B w w') (hg:g < B):Two w' g u0 u1:=
 ⟨((bcell hb).1 _ _ hg).trans h.c0,((bcell hb).1 _ _ hg).trans h.c1,fun i=>((bcell hb).2 _ _ hg).trans (h.fr i)⟩
theorem Two.old {w:World} {g:Nat} {u0 u1:Value} (h:Two w g u0 u1) (hg:g < w.heap.size) (o:Obj):Two (w.alloc o) g u0 u1:=h.below ((Below.refl w.heap.size w).alloc (Nat.le_refl _) o) hg
theorem Two.new (w:World) (v0 v1:Value) (t:TypeId):Two (w.alloc (.cells #[v0,v1] t)) w.heap.size v0 v1:=
 ⟨new_two.1,new_two.2,fun i=>by simp [go_sem]⟩
section
variable {N:Int} {A:Option Addr} {ws:List Nat} {w:World} (cap:Nat) (a c:Int) (v:Bool)
end
end Go.Proofs.YtafpkaifaccehaaGreatDoor
namespace Go.Proofs.YtafpkaifaccehaaGreatDoor
open Go
def countTo (ws:List Nat):Nat → Nat
 | 0=>0
 | k + 1=>countTo ws k + if tb ws k then 1 else 0
theorem countTo_le (ws:List Nat) (k:Nat):countTo ws k ≤ k:=by
 induction k with
 | zero=>exact Nat.le_refl _
 | succ k ih=>unfold countTo;split <;> omega
def FirstP (ws:List Nat) (v:Bool) (a n i why:Int):Prop:=
 (why=0∧a ≤ i∧i < n∧tb ws i.toNat=v∧∀ j:Nat,a ≤ j → (j:Int) < i → tb ws j ≠ v) ∨ (why=3∧i=0∧∀ j:Nat,a ≤ j → (j:Int) < n → tb ws j ≠ v)
def zs (ws:List Nat):Nat → Nat
 | 0=>0
 | k + 1=>if tb ws k then 0 else zs ws k + 1
theorem zs_le (ws:List Nat) (k:Nat):zs ws k ≤ k:=by
 induction k with
 | zero=>exact Nat.le_refl _
 | succ k ih=>unfold zs;split <;> omega
theorem zs_zero (ws:List Nat) (k j:Nat) (h:k - zs ws k ≤ j) (hj:j < k):tb ws j=false:=by
 induction k with
 | zero=>omega
 | succ k ih=>
  unfold zs at h
  cases hb:tb ws k
  ·rw [hb] at h
   simp only [Bool.false_eq_true,if_false] at h
   by_cases e:j=k
   ·rw [e];exact hb
   ·exact ih (by omega) (by omega)
  ·rw [hb] at h
   simp only [if_true] at h
   omega
def RunP (ws:List Nat) (c n i why:Int):Prop:=
 (why=0∧∃ k:Nat,(k:Int) < n∧(zs ws (k + 1):Int)=c∧(∀ j:Nat,j ≤ k → (zs ws j:Int) ≠ c)∧i=k - c + 1) ∨ (why=3∧i=0∧∀ j:Nat,(j:Int) ≤ n → (zs ws j:Int) ≠ c)
theorem RunP.one {ws:List Nat} {c n i why i' why':Int} (h:RunP ws c n i why) (h':RunP ws c n i' why'):i=i'∧why=why':=by
 rcases h with ⟨rfl,k,h1,h2,h3,rfl⟩ | ⟨rfl,rfl,h4⟩ <;> rcases h' with ⟨rfl,k',g1,g2,g3,rfl⟩ | ⟨rfl,rfl,g4⟩
 ·refine ⟨?_,rfl⟩
  by_cases e:k < k'
  ·exact absurd h2 (g3 (k + 1) (by omega))
  ·by_cases e':k' < k
   ·exact absurd g2 (h3 (k' + 1) (by omega))
   ·omega
 ·exact absurd h2 (g4 (k + 1) (by omega))
 ·exact absurd g2 (h4 (k' + 1) (by omega))
 ·exact ⟨rfl,rfl⟩
def bothTo (a b:List Nat):Nat → List Nat
 | 0=>a
 | k + 1=>(bothTo a b k).set k (a.getD k 0 &&& b.getD k 0)
theorem length_bothTo (a b:List Nat) (k:Nat):(bothTo a b k).length=a.length:=by
 induction k with
 | zero=>rfl
 | succ k ih=>rw [bothTo,List.length_set,ih]
theorem bothTo_at (a b:List Nat) (k j:Nat):(bothTo a b k).getD j 0=if j < k∧j < a.length then a.getD j 0 &&& b.getD j 0 else a.getD j 0:=by
 induction k with
 | zero=>rw [if_neg (by omega)];rfl
 | succ k ih=>
  rw [bothTo]
  by_cases e:j=k
  ·subst e
   by_cases hj:j < a.length
   ·rw [if_pos ⟨by omega,hj⟩,List.getD_eq_getElem?_getD,List.getElem?_set_self (by rw [length_bothTo];exact hj)]
    rfl
   ·rw [if_neg (by omega),List.getD_eq_getElem?_getD,List.getElem?_eq_none (by rw [List.length_set,length_bothTo];omega),List.getD_eq_getElem?_getD,List.getElem?_eq_none (by omega)]
  ·rw [List.getD_eq_getElem?_getD,List.getElem?_set_ne (Ne.symm e),← List.getD_eq_getElem?_getD,ih]
   by_cases hj:j < k∧j < a.length
   ·rw [if_pos hj,if_pos (by omega)]
   ·rw [if_neg hj,if_neg (by omega)]
theorem tb_both (a b:List Nat) (i:Nat) (hl:a.length=b.length):tb (bothTo a b a.length) i=(tb a i && tb b i):=by
 unfold tb
 rw [bothTo_at]
 by_cases hj:i / 64 < a.length
 ·rw [if_pos ⟨hj,hj⟩,Nat.testBit_and]
 ·rw [if_neg (by omega),List.getD_eq_getElem?_getD,List.getElem?_eq_none (by omega)]
  simp
theorem and_form (x y:Nat) (hx:x < W64) (hy:y < W64):bits .and .u64 (x:Int) (y:Int)=((x &&& y:Nat):Int):=by
 unfold W64 at hx hy
 exact u64_and_nat x y hx hy
end Go.Proofs.YtafpkaifaccehaaGreatDoor
namespace Go.Proofs.YtafpkaifaccehaaGreatDoor
open Go.RowKit
theorem at_row {A:Option Addr} {ws:List Nat} {w:World} (i:Int) (vb cap:Nat) (hr:Row w w.heap.size A ws) (h0:0 ≤ i) (h1:i < 64 * ws.length) (hl:ws.length ≤ 64) (hc:w.cell? ⟨vb,1,none⟩=some (.slice A ws.length cap)) :
  Calls Tryz.prog 147 #[.pointer (some ⟨vb,0,none⟩),.int .i64 i] w fun e w'=>e=.returned (.bool (tb ws i.toNat))∧∃ n,w'=w.drewN n:=by
 obtain ⟨b,off,rfl,hb,hcc⟩:=hr.at_ (by omega)
 have:=at_any i vb b off ws.length cap _ w h0 h1 hl (hr.words.at_ _) hc (hcc (i / 64).toNat (by omega))
 unfold tb
 rw [show i.toNat / 64=(i / 64).toNat by omega,show i.toNat % 64=(i % 64).toNat by omega]
 exact this
section
variable {n:Int} {A:Option Addr} {ws:List Nat} {w:World} (cap:Nat)
theorem count_bad (hr:Row w w.heap.size A ws) (h:¬ Right n ws) :
  Calls Tryz.prog 67 #[.agg #[.int .i64 n,.slice A ws.length cap]] w fun e w'=>e=.returned (.tuple #[.int .i64 0,.int .i64 2])∧Below w.heap.size w w':=by
 have hR:=Lib.hid h
 clear h
 go_enter Tryz.func67,Tryz.ntmps67
 go_wp2_with (go_at_call 146;refine (view_bad _ (hr.later bX) hR.out).mono ?_;rintro e w1 ⟨rfl,hb_w1⟩;obtain ⟨hc_w1,hf_w1⟩:=bcell hb_w1;have hz_w1_w_0:w.heap.size < w1.heap.size:=lY hb_w1.size)
 go_ret2
 exact ⟨rfl,bX⟩
theorem count_ok (hr:Row w w.heap.size A ws) (h:Right n ws) :
  Calls Tryz.prog 67 #[.agg #[.int .i64 n,.slice A ws.length cap]] w fun e w'=>e=.returned (.tuple #[.int .i64 (countTo ws n.toNat:Nat),.int .i64 0])∧Below w.heap.size w w':=by
 have hn:=h.1
 have hn2:=h.2.1
 have hl:=h.long
 have hl2:=right_len h
 have hR:=Lib.hid h
 clear h
 go_enter Tryz.func67,Tryz.ntmps67
 go_wp2_with (go_at_call 146;refine (view_ok _ (hr.later bX) hR.out).mono ?_;rintro e w1 ⟨rfl,hb_w1⟩;obtain ⟨hc_w1,hf_w1⟩:=bcell hb_w1;have hz_w1_w_0:w.heap.size < w1.heap.size:=lY hb_w1.size)
 go_loopw [6,19] (fun c i wr=>∃ k m:Nat,i=.int .i64 k∧(k:Int) ≤ n∧c=.int .i64 (countTo ws k:Nat)∧wr=(w1.alloc (.cells #[.int .i64 n,.slice A ws.length cap] 203)).drewN m) (fun _ i _=>n.toNat - (intOf i).toNat)
 case atStart=>exact ⟨0,0,rfl,hn,rfl,rfl⟩
 case round=>
  obtain ⟨k,m,rfl,hk,rfl,rfl⟩:=hrel
  have hcl:=countTo_le ws k
  by_cases hlt:(k:Int) < n
  ·have HC:Hid (countTo ws (k + 1)=countTo ws k + if tb ws k then 1 else 0):=Lib.hid rfl
   go_wp2_with (go_at_call 147;refine (at_row k _ cap (hr.later bX) (by omega) (by omega) hl2 (by simp [go_sem])).mono ?_;rintro e w2 ⟨rfl,n2,rfl⟩;simp only [Int.toNat_natCast])
   ·have ht:tb ws k=true:=by assumption
    go_roundw
    case rel=>exact ⟨k + 1,_,by go_num,by omega,by rw [HC.out,ht];go_num,rfl⟩
    case measure=>simp [intOf];omega
   ·have ht:tb ws k=false:=by assumption
    go_roundw
    case rel=>exact ⟨k + 1,_,by go_num,by omega,by rw [HC.out,ht];rfl,rfl⟩
    case measure=>simp [intOf];omega
  ·have hkn:n.toNat=k:=by omega
   go_wp2
   go_ret2
   exact ⟨rfl,bX⟩
def Told (P:Int → Int → Prop) (e:Ending):Prop:=∃ i why:Int,e=.returned (.tuple #[.int .i64 i,.int .i64 why])∧P i why
def NoneTo (ws:List Nat) (v:Bool) (a k:Int):Prop:=∀ j:Nat,a ≤ j → (j:Int) < k → tb ws j ≠ v
variable (a:Int) (v:Bool)
theorem first_in (hr:Row w w.heap.size A ws) (h:Right n ws) (h0:0 ≤ a) (h1:a ≤ n) :
  Calls Tryz.prog 206 #[.agg #[.int .i64 n,.slice A ws.length cap],.int .i64 a,.bool v] w fun e w'=>Told (FirstP ws v a n) e∧Below w.heap.size w w':=by
 have hn2:=h.2.1
 have hl:=h.long
 have hl2:=right_len h
 have hR:=Lib.hid h
 clear h
 have hd:decide (a < 0)=false:=by simpa using h0
 have hd1:decide (n < a)=false:=by simpa using h1
 go_enter Tryz.func206,Tryz.ntmps206
 go_wp2_with (go_at_call 146;refine (view_ok _ (hr.later bX) hR.out).mono ?_;rintro e w1 ⟨rfl,hb_w1⟩;obtain ⟨hc_w1,hf_w1⟩:=bcell hb_w1;have hz_w1_w_0:w.heap.size < w1.heap.size:=lY hb_w1.size)
 go_loopw [10] (fun i wr=>∃ (k:Int) (m:Nat),i=.int .i64 k∧a ≤ k∧k ≤ n∧NoneTo ws v a k∧wr=(w1.alloc (.cells #[.int .i64 n,.slice A ws.length cap] 203)).drewN m) (fun i _=>(n - intOf i).toNat)
 case atStart=>exact ⟨a,0,rfl,Int.le_refl _,h1,fun j g1 g2=>by omega,rfl⟩
 case round=>
  obtain ⟨k,m,rfl,hk1,hk,hN,rfl⟩:=hrel
  by_cases hlt:k < n
  ·go_wp2_with (go_at_call 147;refine (at_row k _ cap (hr.later bX) (by omega) (by omega) hl2 (by simp [go_sem])).mono ?_;rintro e w2 ⟨rfl,n2,rfl⟩)
   ·have ht:(tb ws k.toNat == v)=true:=by assumption
    go_ret2
    exact ⟨⟨k,0,rfl,.inl ⟨rfl,hk1,hlt,by simpa using ht,hN⟩⟩,bX⟩
   ·have ht:(tb ws k.toNat == v)=false:=by assumption
    go_roundw
    case rel=>exact ⟨k + 1,_,rfl,by omega,by omega,fun j g1 g2=>by
      by_cases e:(j:Int)=k
      ·rw [show j=k.toNat by omega];simpa using ht
      ·exact hN j g1 (by omega),rfl⟩
    case measure=>simp [intOf];omega
  ·go_wp2
   go_ret2
   exact ⟨⟨0,3,rfl,.inr ⟨rfl,rfl,fun j g1 g2=>hN j g1 (by omega)⟩⟩,bX⟩
end
def NotTo (ws:List Nat) (c:Int) (k:Nat):Prop:=∀ j:Nat,j ≤ k → (zs ws j:Int) ≠ c
theorem notTo_zero {ws:List Nat} {c:Int} (h:1 ≤ c):NotTo ws c 0:=fun j g=>by
 obtain rfl:j=0:=by omega
 show (0:Int) ≠ c
 omega
section
variable {n:Int} {A:Option Addr} {ws:List Nat} {w:World} (cap:Nat) (c:Int)
theorem run_bad (hr:Row w w.heap.size A ws) (h:¬ Right n ws) :
  Calls Tryz.prog 168 #[.agg #[.int .i64 n,.slice A ws.length cap],.int .i64 c] w fun e w'=>e=.returned (.tuple #[.int .i64 0,.int .i64 2])∧Below w.heap.size w w':=by
 have hR:=Lib.hid h
 clear h
 go_enter Tryz.func168,Tryz.ntmps168
 go_wp2_with (go_at_call 146;refine (view_bad _ (hr.later bX) hR.out).mono ?_;rintro e w1 ⟨rfl,hb_w1⟩;obtain ⟨hc_w1,hf_w1⟩:=bcell hb_w1;have hz_w1_w_0:w.heap.size < w1.heap.size:=lY hb_w1.size)
 go_ret2
 exact ⟨rfl,bX⟩
theorem run_out (hr:Row w w.heap.size A ws) (h:Right n ws) (hi:c < 1) :
  Calls Tryz.prog 168 #[.agg #[.int .i64 n,.slice A ws.length cap],.int .i64 c] w fun e w'=>e=.returned (.tuple #[.int .i64 0,.int .i64 1])∧Below w.heap.size w w':=by
 have hR:=Lib.hid h
 clear h
 have hd:decide (c < 1)=true:=by simpa using hi
 go_enter Tryz.func168,Tryz.ntmps168
 go_wp2_with (go_at_call 146;refine (view_ok _ (hr.later bX) hR.out).mono ?_;rintro e w1 ⟨rfl,hb_w1⟩;obtain ⟨hc_w1,hf_w1⟩:=bcell hb_w1;have hz_w1_w_0:w.heap.size < w1.heap.size:=lY hb_w1.size)
 go_ret2
 exact ⟨rfl,bX⟩
theorem bits_run_in (hr:Row w w.heap.size A ws) (h:Right n ws) (h0:1 ≤ c) (h63:c ≤ 9223372036854775807) :
  Calls Tryz.prog 168 #[.agg #[.int .i64 n,.slice A ws.length cap],.int .i64 c] w fun e w'=>Told (RunP ws c n) e∧Below w.heap.size w w':=by
 have hn:=h.1
 have hn2:=h.2.1
 have hl:=h.long
 have hl2:=right_len h
 have hR:=Lib.hid h
 clear h
 have hd:decide (c < 1)=false:=by simpa using h0
 go_enter Tryz.func168,Tryz.ntmps168
 go_wp2_with (go_at_call 146;refine (view_ok _ (hr.later bX) hR.out).mono ?_;rintro e w1 ⟨rfl,hb_w1⟩;obtain ⟨hc_w1,hf_w1⟩:=bcell hb_w1;have hz_w1_w_0:w.heap.size < w1.heap.size:=lY hb_w1.size)
 go_loopw [8,23] (fun z i wr=>∃ (k m:Nat),i=.int .i64 k∧(k:Int) ≤ n∧z=.int .i64 (zs ws k:Nat)∧NotTo ws c k∧wr=(w1.alloc (.cells #[.int .i64 n,.slice A ws.length cap] 203)).drewN m) (fun _ i _=>n.toNat - (intOf i).toNat)
 case atStart=>exact ⟨0,0,rfl,hn,rfl,notTo_zero h0,rfl⟩
 case round=>
  obtain ⟨k,m,rfl,hk,rfl,hN,rfl⟩:=hrel
  have hzl:=zs_le ws k
  have HZ:Hid (zs ws (k + 1)=if tb ws k then 0 else zs ws k + 1):=Lib.hid rfl
  by_cases hlt:(k:Int) < n
  ·go_wp2_with (go_at_call 147;refine (at_row k _ cap (hr.later bX) (by omega) (by omega) hl2 (by simp [go_sem])).mono ?_;rintro e w2 ⟨rfl,n2,rfl⟩;simp only [Int.toNat_natCast])
   ·have ht:tb ws k=true:=by assumption
    go_roundw
    case rel=>exact ⟨k + 1,_,by go_num,by omega,by rw [HZ.out,ht];rfl,fun j g=>by
      by_cases e:j=k + 1
      ·rw [e,HZ.out,ht];show (0:Int) ≠ c;omega
      ·exact hN j (by omega),rfl⟩
    case measure=>simp [intOf];omega
   ·have ht:tb ws k=false:=by assumption
    have hq:(((zs ws k:Nat):Int) + 1 == c)=true:=by assumption
    have hq':=eq_of_beq hq
    go_ret2
    exact ⟨⟨_,0,rfl,.inl ⟨rfl,k,hlt,by rw [HZ.out,ht];simp;omega,hN,rfl⟩⟩,bX⟩
   ·have ht:tb ws k=false:=by assumption
    have hq:(((zs ws k:Nat):Int) + 1 == c)=false:=by assumption
    go_roundw
    case rel=>exact ⟨k + 1,_,by go_num,by omega,by rw [HZ.out,ht];go_num,fun j g=>by
      by_cases e:j=k + 1
      ·rw [e,HZ.out,ht];have:=beq_eq_false_iff_ne.1 hq;simp;omega
      ·exact hN j (by omega),rfl⟩
    case measure=>simp [intOf];omega
  ·go_wp2
   go_ret2
   exact ⟨⟨0,3,rfl,.inr ⟨rfl,rfl,fun j g1=>hN j (by omega)⟩⟩,bX⟩
end
theorem Two.new1 (w:World) (o:Obj) (v0 v1:Value) (t:TypeId):Two ((w.alloc o).alloc (.cells #[v0,v1] t)) (w.heap.size + 1) v0 v1:=by
 have h:=Two.new (w.alloc o) v0 v1 t
 rwa [World.size_alloc] at h
theorem Two.new2 (w:World) (o o':Obj) (v0 v1:Value) (t:TypeId):Two (((w.alloc o).alloc o').alloc (.cells #[v0,v1] t)) (w.heap.size + 2) v0 v1:=by
 have h:=Two.new1 (w.alloc o) o' v0 v1 t
 rwa [World.size_alloc] at h
section
variable {n m:Int} {A C:Option Addr} {ws us:List Nat} {w:World} (cap cap':Nat)
theorem both_bad1 (hr:Row w w.heap.size A ws) (h:¬ Right n ws) :
  Calls Tryz.prog 193 #[.agg #[.int .i64 n,.slice A ws.length cap],.agg #[.int .i64 m,.slice C us.length cap']] w fun e w'=>Fresh w 0 [] 2 e w':=by
 have hR:=Lib.hid h
 clear h
 go_enter Tryz.func193,Tryz.ntmps193
 go_wp2_with (go_at_call 233;refine (twin_bad _ (hr.later bX) hR.out).mono ?_;rintro e w1 ⟨A1,cap1,rfl,ho1,hb_w1⟩;obtain ⟨hc_w1,hf_w1⟩:=bcell hb_w1;have hz_w1_w_0:w.heap.size < w1.heap.size:=lY hb_w1.size;have hz_w1_w_1:w.heap.size + 1 < w1.heap.size:=lY hb_w1.size;have hz_w1_w_2:w.heap.size + 2 < w1.heap.size:=lY hb_w1.size)
 have t2:Two w1 (w.heap.size + 2) _ _:=(Two.new2 w _ _ _ _ _).below hb_w1 lX
 exact bodyPost_ret (res_bits rfl rfl ((t2.set_ _ _).old lX _).c0 ((t2.set_ _ _).old lX _).c1) rfl ⟨none,0,rfl,Own.nil _ _,bX⟩
theorem both_bad2 (hr:Row w w.heap.size A ws) (hs:Row w w.heap.size C us) (h:Right n ws) (h':¬ Right m us) :
  Calls Tryz.prog 193 #[.agg #[.int .i64 n,.slice A ws.length cap],.agg #[.int .i64 m,.slice C us.length cap']] w fun e w'=>Fresh w 0 [] 2 e w':=by
 have hR:=Lib.hid h
 have hR':=Lib.hid h'
 clear h h'
 go_enter Tryz.func193,Tryz.ntmps193
 go_wp2_with (first
  | (go_at_call 233;refine (twin_ok _ (hr.later bX) hR.out).mono ?_;rintro e w1 ⟨A1,cap1,rfl,ho1,hb_w1⟩;obtain ⟨hc_w1,hf_w1⟩:=bcell hb_w1;have hz_w1_w_0:w.heap.size < w1.heap.size:=lY hb_w1.size;have hz_w1_w_1:w.heap.size + 1 < w1.heap.size:=lY hb_w1.size;have hz_w1_w_2:w.heap.size + 2 < w1.heap.size:=lY hb_w1.size)
  | (go_at_call 146;refine (view_bad _ (hs.later bX) hR'.out).mono ?_;rintro e w2 ⟨rfl,hb_w2⟩;obtain ⟨hc_w2,hf_w2⟩:=bcell hb_w2;have hz_w2_w_0:w.heap.size < w2.heap.size:=lY hb_w2.size;have hz_w2_w_1:w.heap.size + 1 < w2.heap.size:=lY hb_w2.size;have hz_w2_w_2:w.heap.size + 2 < w2.heap.size:=lY hb_w2.size;have hz_w2_w1_0:w1.heap.size < w2.heap.size:=lY hb_w2.size))
 have t2:Two w1 (w.heap.size + 2) _ _:=(Two.new2 w _ _ _ _ _).below hb_w1 lX
 have t3:Two w2 (w.heap.size + 2) _ _:=(t2.old lX _).below hb_w2 lX
 exact bodyPost_ret (res_bits rfl rfl ((t3.set_ _ _).old lX _).c0 ((t3.set_ _ _).old lX _).c1) rfl ⟨none,0,rfl,Own.nil _ _,bX⟩
theorem both_len (hr:Row w w.heap.size A ws) (hs:Row w w.heap.size C us) (h:Right n ws) (h':Right m us) (hne:n ≠ m) :
  Calls Tryz.prog 193 #[.agg #[.int .i64 n,.slice A ws.length cap],.agg #[.int .i64 m,.slice C us.length cap']] w fun e w'=>Fresh w 0 [] 2 e w':=by
 have hR:=Lib.hid h
 have hR':=Lib.hid h'
 have hd:(n != m)=true:=by simpa using hne
 clear h h' hne
 go_enter Tryz.func193,Tryz.ntmps193
 go_wp2_with (first
  | (go_at_call 233;refine (twin_ok _ (hr.later bX) hR.out).mono ?_;rintro e w1 ⟨A1,cap1,rfl,ho1,hb_w1⟩;obtain ⟨hc_w1,hf_w1⟩:=bcell hb_w1;have hz_w1_w_0:w.heap.size < w1.heap.size:=lY hb_w1.size;have hz_w1_w_1:w.heap.size + 1 < w1.heap.size:=lY hb_w1.size;have hz_w1_w_2:w.heap.size + 2 < w1.heap.size:=lY hb_w1.size)
  | (go_at_call 146;refine (view_ok _ (hs.later bX) hR'.out).mono ?_;rintro e w2 ⟨rfl,hb_w2⟩;obtain ⟨hc_w2,hf_w2⟩:=bcell hb_w2;have hz_w2_w_0:w.heap.size < w2.heap.size:=lY hb_w2.size;have hz_w2_w_1:w.heap.size + 1 < w2.heap.size:=lY hb_w2.size;have hz_w2_w_2:w.heap.size + 2 < w2.heap.size:=lY hb_w2.size;have hz_w2_w1_0:w1.heap.size < w2.heap.size:=lY hb_w2.size))
 have t2:Two w1 (w.heap.size + 2) _ _:=(Two.new2 w _ _ _ _ _).below hb_w1 lX
 have t3:Two w2 (w.heap.size + 2) _ _:=(t2.old lX _).below hb_w2 lX
 exact bodyPost_ret (res_bits rfl rfl ((t3.set_ _ _).old lX _).c0 ((t3.set_ _ _).old lX _).c1) rfl ⟨none,0,rfl,Own.nil _ _,bX⟩
theorem right_same {n:Int} {ws us:List Nat} (h:Right n ws) (h':Right n us):ws.length=us.length:=by rw [h.2.2.1,h'.2.2.1]
set_option maxHeartbeats 400000 in
theorem both_ok (hr:Row w w.heap.size A ws) (hs:Row w w.heap.size C us) (h:Right n ws) (h':Right n us) :
  Calls Tryz.prog 193 #[.agg #[.int .i64 n,.slice A ws.length cap],.agg #[.int .i64 n,.slice C us.length cap']] w fun e w'=>Fresh w n (bothTo ws us us.length) 0 e w':=by
 have hR:=Lib.hid h
 have hR':=Lib.hid h'
 have HL:=Lib.hid (right_same h h')
 have hl2:=right_len h'
 have hd:(n != n)=false:=by simp
 clear h h'
 go_enter Tryz.func193,Tryz.ntmps193
 go_wp2_with (first
  | (go_at_call 233;refine (twin_ok _ (hr.later bX) hR.out).mono ?_;rintro e w1 ⟨A1,cap1,rfl,ho1,hb_w1⟩;obtain ⟨hc_w1,hf_w1⟩:=bcell hb_w1;have hz_w1_w_0:w.heap.size < w1.heap.size:=lY hb_w1.size;have hz_w1_w_1:w.heap.size + 1 < w1.heap.size:=lY hb_w1.size;have hz_w1_w_2:w.heap.size + 2 < w1.heap.size:=lY hb_w1.size)
  | (go_at_call 146;refine (view_ok _ (hs.later bX) hR'.out).mono ?_;rintro e w2 ⟨rfl,hb_w2⟩;obtain ⟨hc_w2,hf_w2⟩:=bcell hb_w2;have hz_w2_w_0:w.heap.size < w2.heap.size:=lY hb_w2.size;have hz_w2_w_1:w.heap.size + 1 < w2.heap.size:=lY hb_w2.size;have hz_w2_w_2:w.heap.size + 2 < w2.heap.size:=lY hb_w2.size;have hz_w2_w1_0:w1.heap.size < w2.heap.size:=lY hb_w2.size))
 simp only [zA] at ho1
 have t2:Two w1 (w.heap.size + 2) _ _:=(Two.new2 w _ _ _ _ _).below hb_w1 lX
 have t3:Two w2 (w.heap.size + 2) _ _:=(t2.old lX _).below hb_w2 lX
 have t4:Two w2 w1.heap.size _ _:=(Two.new w1 (.int .i64 n) (.slice A1 ws.length cap1) 203).below hb_w2 lX
 go_loopw [41] (fun i wr=>∃ k:Nat,i=.int .i64 k∧k ≤ us.length∧Own wr (w.heap.size + 3) A1 (bothTo ws us k)∧Two wr w1.heap.size (.int .i64 n) (.slice A1 ws.length cap1)∧Two wr (w.heap.size + 2) (.int .i64 0) (.slice none 0 0) ∧
   w1.heap.size < wr.heap.size∧Below w.heap.size w wr) (fun i _=>us.length - (intOf i).toNat)
 case atStart=>exact ⟨0,rfl,Nat.zero_le _,(ho1.later bX).mono lX,t4.old lX _,t3.old lX _,lX,bX⟩
 case round=>
  obtain ⟨k,rfl,hk,hO,hT1,hT2,hsz,hb_wr⟩:=hrel
  obtain ⟨hc_wr,hf_wr⟩:=bcell hb_wr
  obtain ⟨y0,y1,yf⟩:=id hT1
  obtain ⟨z0,z1,zf⟩:=id hT2
  by_cases hlt:k < us.length
  ·obtain ⟨b,off,rfl,hb,hcc⟩:=hs.at_ (by omega)
   obtain ⟨g,rfl,hBg,hg,_⟩:=ho1.at_ (by have:=HL.out;omega)
   have HB:=Lib.hid (length_bothTo ws us k)
   obtain ⟨g',hA',_,_,hcg⟩:=hO.at_ (by have:=HB.out;have:=HL.out;omega)
   injection hA' with hA'
   injection hA' with hA'
   subst hA'
   obtain ⟨hcx,hfx⟩:=hcg k (by have:=HB.out;have:=HL.out;omega)
   have hcy:=(hc_wr _ _ hb).trans (hcc k hlt)
   rw [bothTo_at,if_neg (by omega)] at hcx
   obtain ⟨x,hx⟩:=named ws k
   obtain ⟨y,hy⟩:=named us k
   rw [hx.out] at hcx
   rw [hy.out] at hcy
   have hX:=and_form x y (by rw [← hx.out];exact hr.words.at_ _) (by rw [← hy.out];exact hs.words.at_ _)
   have hlA:k < ws.length:=by have:=HL.out;omega
   clear hcg hcc hc_wr hf_wr
   go_wp2
   go_roundw
   case rel=>
    have hP:=hO.set_ (i:=k) (x:=x &&& y) rfl (by have:=HB.out;omega) (Nat.lt_of_le_of_lt Nat.and_le_left (by rw [← hx.out];exact hr.words.at_ _))
    exact ⟨k + 1,by go_num,by omega,by unfold bothTo;rw [hx.out,hy.out];exact hP,⟨(cO _ _ _ _ (by intro e;injection e;omega)).trans y0,(cO _ _ _ _ (by intro e;injection e;omega)).trans y1,fun i=>by rw [World.frozen?_setCell];exact yf i⟩,
     ⟨(cO _ _ _ _ (by intro e;injection e;omega)).trans z0,(cO _ _ _ _ (by intro e;injection e;omega)).trans z1,fun i=>by rw [World.frozen?_setCell];exact zf i⟩,lX,bX⟩
   case measure=>simp [intOf];omega
  ·obtain rfl:k=us.length:=by omega
   go_wp2
   exact bodyPost_ret (res_bits rfl rfl (hT2.set_ _ _).c0 (hT2.set_ _ _).c1) rfl ⟨A1,cap1,by rw [length_bothTo];rfl,(hO.two (g:=w.heap.size + 2) lX).mono lX,bX⟩
end
theorem tb_zeros (k i:Nat):tb (List.replicate k 0) i=false:=by
 unfold tb
 have:(List.replicate k 0).getD (i / 64) 0=0:=by
  rw [List.getD_eq_getElem?_getD,List.getElem?_replicate]
  split <;> rfl
 rw [this,Nat.zero_testBit]
theorem right_wordsN (n:Int) (h0:0 ≤ n) (h1:n ≤ 4096):Right n (wordsN n):=
 ⟨h0,h1,by unfold wordsN;rw [List.length_replicate];omega,fun i _ _=>tb_zeros _ _⟩
theorem Told.is {P:Int → Int → Prop} {i why:Int} (hu:∀ i' why',P i' why' → i'=i∧why'=why) {e:Ending} (h:Told P e):e=.returned (.tuple #[.int .i64 i,.int .i64 why]):=by
 obtain ⟨i',why',he,hp⟩:=h
 obtain ⟨rfl,rfl⟩:=hu _ _ hp
 exact he
theorem run_ex (ws:List Nat) (c:Int) (h1:1 ≤ c) (m:Nat):∃ i why,RunP ws c m i why:=by
 induction m with
 | zero=>exact ⟨0,3,.inr ⟨rfl,rfl,fun j g=>by
   obtain rfl:j=0:=by omega
   show (0:Int) ≠ c
   omega⟩⟩
 | succ m ih=>
  obtain ⟨i,why,h⟩:=ih
  rcases h with ⟨rfl,k,g1,g2,g3,rfl⟩ | ⟨rfl,rfl,h4⟩
  ·exact ⟨_,0,.inl ⟨rfl,k,by omega,g2,g3,rfl⟩⟩
  ·by_cases hb:(zs ws (m + 1):Int)=c
   ·exact ⟨_,0,.inl ⟨rfl,m,by omega,hb,fun j g=>h4 j (by omega),rfl⟩⟩
   ·refine ⟨0,3,.inr ⟨rfl,rfl,fun j g=>?_⟩⟩
    by_cases e:j=m + 1
    ·rw [e];exact hb
    ·exact h4 j (by omega)
theorem same_ok (n:Int) (ws:List Nat) (hm:ws.length ≤ maxLen) (w:World) (A A':Option Addr) (cap cap':Nat) (hr:Row w w.heap.size A ws) (hr':Row w w.heap.size A' ws) :
  Calls Tryz.prog 141 #[.agg #[.int .i64 n,.slice A ws.length cap],.agg #[.int .i64 n,.slice A' ws.length cap']] w fun e w'=>e=.returned (.bool true)∧Below w.heap.size w w':=
 (same_loop n A A' cap cap' ws ws w hr hr' rfl hm).mono fun _ _ ⟨h1,h2⟩=>⟨by rw [h1,decide_eq_true rfl],h2⟩
def I63 (x:Int):Prop:=-9223372036854775808 ≤ x∧x ≤ 9223372036854775807
structure IRow (w:World) (B:Nat) (A:Option Addr) (xs:List Int):Prop where
 in_:∀ x ∈ xs,I63 x
 at_:0 < xs.length → ∃ b off,A=some ⟨b,off,none⟩∧b < B∧∀ i,i < xs.length → w.cell? ⟨b,off + i,none⟩=some (.int .i64 (xs.getD i 0))
theorem IRow.keep {w w':World} {B:Nat} {A:Option Addr} {xs:List Int} (h:IRow w B A xs) (hk:∀ b o,b < B → w'.cell? ⟨b,o,none⟩=w.cell? ⟨b,o,none⟩):IRow w' B A xs:=
 ⟨h.in_,fun hl=>by
  obtain ⟨b,off,e,hb,hc⟩:=h.at_ hl
  exact ⟨b,off,e,hb,fun i hi=>(hk _ _ hb).trans (hc i hi)⟩⟩
theorem IRow.more {w:World} {B B':Nat} {A:Option Addr} {xs:List Int} (h:IRow w B A xs) (hB:B ≤ B'):IRow w B' A xs:=
 ⟨h.in_,fun hl=>by
  obtain ⟨b,off,e,hb,hc⟩:=h.at_ hl
  exact ⟨b,off,e,by omega,hc⟩⟩
theorem IRow.later {w w':World} {A:Option Addr} {xs:List Int} (h:IRow w w.heap.size A xs) (hb:Below w.heap.size w w'):IRow w' w'.heap.size A xs:=
 (h.keep fun b o hlt=>hb.cell (p:=⟨b,o,none⟩) hlt).more hb.size
theorem IRow.nil (w:World) (B:Nat) (A:Option Addr):IRow w B A []:=⟨fun x hx=>by simp at hx,fun h=>by simp at h⟩
def ivals (xs:List Int):List Value:=xs.map fun (x:Int)=>Value.int .i64 x
theorem length_ivals (xs:List Int):(ivals xs).length=xs.length:=by simp [ivals]
theorem ivals_at (xs:List Int) (i:Nat) (h:i < xs.length):(ivals xs)[i]?=some (.int .i64 (xs.getD i 0)):=by
 simp [ivals,h]
theorem ivals_one (xs:List Int):∀ v ∈ ivals xs,v.oneCell'=true:=by
 intro v hv
 simp only [ivals,List.mem_map] at hv
 obtain ⟨x,_,rfl⟩:=hv
 rfl
theorem IRow.src {w w':World} {b off:Nat} {xs:List Int} (h:IRow w w.heap.size (some ⟨b,off,none⟩) xs) (hb:Below w.heap.size w w') (j:Nat) (v:Value) (hv:(ivals xs)[j]?=some v):w'.cell? ((⟨b,off,none⟩:Addr).add j)=some v:=by
 have hj:j < xs.length:=by
  have:=(List.getElem?_eq_some_iff.1 hv).1
  rwa [length_ivals] at this
 obtain ⟨b',off',e,_,hc⟩:=(h.later hb).at_ (by omega)
 injection e with e
 injection e with e1 e2
 subst e1 e2
 rw [ivals_at xs j hj] at hv
 injection hv with hv
 subst hv
 rw [add_form]
 exact hc j hj
theorem info_int:(Tryz.prog.info? 3).map (fun i=>(i.zero,i.size,i.bytes))=some (some (.int .i64 0),1,8):=by kernel_rfl
def Sh (n:Int) (m:Nat):Prop:=0 ≤ n∧n ≤ 48∧m / 2 ^ n.toNat=0
instance (n:Int) (m:Nat):Decidable (Sh n m):=inferInstanceAs (Decidable (_∧_))
def pk (n:Int) (m:Nat):Nat:=165 * 72057594037927936 + m * 256 + n.toNat
theorem Sh.lt {n:Int} {m:Nat} (h:Sh n m):m < 281474976710656:=by
 obtain ⟨h0,h1,h2⟩:=h
 have hp:m < 2 ^ n.toNat:=by
  have:=Nat.div_eq_zero_iff.1 h2
  rcases this with h | h
  ·exact absurd h (Nat.pos_iff_ne_zero.1 (Nat.two_pow_pos _))
  ·exact h
 exact Nat.lt_of_lt_of_le hp (show 2 ^ n.toNat ≤ 2 ^ 48 from Nat.pow_le_pow_right (by omega) (by omega))
theorem Sh.bit {n:Int} {m:Nat} (h:Sh n m) (i:Nat) (hi:n.toNat ≤ i):m.testBit i=false:=by
 obtain ⟨h0,h1,h2⟩:=h
 have e:i=n.toNat + (i - n.toNat):=by omega
 rw [e,← Nat.testBit_shiftRight,Nat.shiftRight_eq_div_pow,h2,Nat.zero_testBit]
theorem sh_of_bits {n:Int} {m:Nat} (hm:m < W64) (h0:0 ≤ n) (h1:n ≤ 48) (h:∀ i,n.toNat ≤ i → i < 64 → m.testBit i=false):Sh n m:=by
 refine ⟨h0,h1,?_⟩
 rw [← Nat.shiftRight_eq_div_pow]
 apply Nat.eq_of_testBit_eq
 intro j
 rw [Nat.testBit_shiftRight,Nat.zero_testBit]
 by_cases hj:n.toNat + j < 64
 ·exact h _ (by omega) hj
 ·exact Nat.testBit_lt_two_pow (Nat.lt_of_lt_of_le hm (by rw [W64_eq];exact Nat.pow_le_pow_right (by omega) (by omega)))
theorem Sh.more {n:Int} {m:Nat} (h:Sh n m) (h1:n + 1 ≤ 48):Sh (n + 1) m:=
 sh_of_bits (Nat.lt_of_lt_of_le h.lt (by decide)) (by have:=h.1;omega) h1 fun i hi _=>h.bit i (by omega)
theorem or_apart (a b k:Nat) (h:b < 2 ^ k):(a * 2 ^ k) ||| b=a * 2 ^ k + b:=by
 rw [Nat.mul_comm,← Nat.two_pow_add_eq_or_of_lt h]
theorem pk_or (n:Int) (m:Nat) (h:Sh n m):(11889503016258109440 ||| m * 256) ||| n.toNat=pk n m:=by
 have hm:=h.lt
 have h1:=h.2.1
 have e1:11889503016258109440 ||| m * 256=11889503016258109440 + m * 256:=or_apart 165 (m * 256) 56 (by omega)
 have e2:11889503016258109440 + m * 256=(165 * 281474976710656 + m) * 2 ^ 8:=by omega
 have h8:n.toNat < 2 ^ 8:=by omega
 rw [e1,e2,or_apart _ _ 8 h8]
 unfold pk
 omega
theorem pk_lt (n:Int) (m:Nat) (h:Sh n m):pk n m < W64:=by
 have hm:=h.lt
 have h1:=h.2.1
 unfold pk W64
 omega
theorem pk_form {n:Int} {m:Nat} (h:Sh n m):Go.bits .or .u64 (Go.bits .or .u64 11889503016258109440 ((m:Int) * 256)) n=((pk n m:Nat):Int):=by
 have hm:=h.lt
 have h0:=h.1
 have h1:=h.2.1
 obtain ⟨k,rfl⟩:∃ k:Nat,n=k:=⟨n.toNat,by omega⟩
 have e1:(11889503016258109440:Int)=((11889503016258109440:Nat):Int):=rfl
 have e2:(m:Int) * 256=((m * 256:Nat):Int):=by omega
 have e:=pk_or _ m h
 rw [Int.toNat_natCast] at e
 rw [e1,e2,u64_or_nat _ _ (by decide) (by omega),u64_or_nat _ _ (Nat.or_lt_two_pow (n:=64) (by decide) (by omega)) (by omega),e]
theorem holds_form (m k:Nat) (hm:m < W64):(Go.bits .and .u64 ((m:Int) / 2 ^ k) 1 != 0)=m.testBit k:=by
 have e:(m:Int) / 2 ^ k=((m / 2 ^ k:Nat):Int):=by simp
 have e1:(1:Int)=((1:Nat):Int):=rfl
 have hl:m / 2 ^ k < 18446744073709551616:=Nat.lt_of_le_of_lt (Nat.div_le_self _ _) hm
 rw [e,e1,u64_and_nat _ _ hl (by decide),Nat.and_one_is_mod,Nat.testBit_eq_decide_div_mod_eq]
 generalize m / 2 ^ k=y
 rw [Bool.eq_iff_iff]
 simp only [bne_iff_ne,decide_eq_true_eq]
 omega
def uN (w:Nat):Int:=((w % 256:Nat):Int)
def uM (w:Nat):Nat:=w / 256 % 281474976710656
def Un (w:Nat):Prop:=w / 72057594037927936=165∧Sh (uN w) (uM w)
instance (w:Nat):Decidable (Un w):=inferInstanceAs (Decidable (_∧_))
theorem un_pk {n:Int} {m:Nat} (h:Sh n m):uN (pk n m)=n∧uM (pk n m)=m∧Un (pk n m):=by
 have hm:=h.lt
 have a:=h.1;have b:=h.2.1
 have e1:uN (pk n m)=n:=by unfold uN pk;omega
 have e2:uM (pk n m)=m:=by unfold uM pk;omega
 refine ⟨e1,e2,?_,?_⟩
 ·unfold pk;omega
 ·rw [e1,e2];exact h
theorem pk_un {w:Nat} (hw:w < W64) (h:Un w):pk (uN w) (uM w)=w:=by
 obtain ⟨h1,_⟩:=h
 unfold W64 at hw
 unfold pk uN uM
 omega
theorem un_iff {w:Nat} (hw:w < W64):Un w ↔ (Sh (uN w) (uM w)∧pk (uN w) (uM w)=w):=by
 constructor
 ·intro h;exact ⟨h.2,pk_un hw h⟩
 ·rintro ⟨h,he⟩
  have:=(un_pk h).2.2
  rwa [he] at this
structure Sp (w:World) (g:Nat) (n:Int) (m:Nat):Prop where
 c0:w.cell? ⟨g,0,none⟩=some (.int .i64 n)
 c1:w.cell? ⟨g,1,none⟩=some (.int .u64 (m:Nat))
theorem Sp.lt {w:World} {g:Nat} {n:Int} {m:Nat} (h:Sp w g n m):g < w.heap.size:=World.block_lt_of_cell? w _ h.c0
theorem Sp.below {w w':World} {B g:Nat} {n:Int} {m:Nat} (h:Sp w g n m) (hb:Below B w w') (hg:g < B):Sp w' g n m:=
 ⟨((bcell hb).1 _ _ hg).trans h.c0,((bcell hb).1 _ _ hg).trans h.c1⟩
theorem Sp.later {w w':World} {g:Nat} {n:Int} {m:Nat} (h:Sp w g n m) (hb:Below w.heap.size w w'):Sp w' g n m:=h.below hb h.lt
theorem Sp.new (w:World) (n:Int) (m:Nat) (t:TypeId):Sp (w.alloc (.cells #[.int .i64 n,.int .u64 (m:Nat)] t)) w.heap.size n m:=by
 constructor <;> simp [go_sem]
def AllF (n:Int) (xs:List Int) (k:Nat):Prop:=∀ j,j < k → 0 ≤ xs.getD j 0∧xs.getD j 0 < n
def cnt (m:Nat) (xs:List Int):Nat → Nat
 | 0=>0
 | k + 1=>cnt m xs k + if m.testBit (xs.getD k 0).toNat then 1 else 0
def nx (m:Nat) (a:Nat):Nat → Option Nat
 | 0=>none
 | k + 1=>if m.testBit a then some a else nx m (a + 1) k
section
variable {n:Int} {m:Nat} {w:World}
theorem hcheck_ok (h:Sh n m) :
  Calls Tryz.prog 155 #[.agg #[.int .i64 n,.int .u64 (m:Nat)]] w fun e w'=>e=.returned (.int .i64 0)∧Below w.heap.size w w':=by
 obtain ⟨h0,h1,h2⟩:=h
 have hd:decide (n < 0)=false:=decide_eq_false (by omega)
 have hd2:decide (48 < n)=false:=decide_eq_false (by omega)
 have hd3:(((m:Nat):Int) / 2 ^ n.toNat != 0)=false:=by rw [shr_form,Nat.shiftRight_eq_div_pow,h2];rfl
 clear h2
 go_enter Tryz.func155,Tryz.ntmps155
 go_wp2
 go_ret
 exact ⟨rfl,bX⟩
theorem hcheck_bad (hm:m < W64) (h:¬ Sh n m) :
  Calls Tryz.prog 155 #[.agg #[.int .i64 n,.int .u64 (m:Nat)]] w fun e w'=>e=.returned (.int .i64 2)∧Below w.heap.size w w':=by
 by_cases h0:n < 0
 ·have hd:decide (n < 0)=true:=decide_eq_true (by omega)
  clear h
  go_enter Tryz.func155,Tryz.ntmps155
  go_wp2
  go_ret
  exact ⟨rfl,bX⟩
 have hd:decide (n < 0)=false:=decide_eq_false (by omega)
 by_cases h1:48 < n
 ·have hd2:decide (48 < n)=true:=decide_eq_true (by omega)
  clear h
  go_enter Tryz.func155,Tryz.ntmps155
  go_wp2
  go_ret
  exact ⟨rfl,bX⟩
 have hd2:decide (48 < n)=false:=decide_eq_false (by omega)
 have hd3:(((m:Nat):Int) / 2 ^ n.toNat != 0)=true:=by
  rw [shr_form,Nat.shiftRight_eq_div_pow,bne_iff_ne]
  intro hz
  exact h ⟨by omega,by omega,hz⟩
 clear h
 go_enter Tryz.func155,Tryz.ntmps155
 go_wp2
 go_ret
 exact ⟨rfl,bX⟩
theorem xis_any (f:Int) (h0:0 ≤ f) (h1:f < 64) :
  Calls Tryz.prog 97 #[.agg #[.int .i64 n,.int .u64 (m:Nat)],.int .i64 f] w fun e w'=>e=.returned (.bool (m.testBit f.toNat))∧Below w.heap.size w w':=by
 have hd:=is_form m f.toNat
 go_enter Tryz.func97,Tryz.ntmps97
 go_wp2
 go_ret
 exact ⟨rfl,bX⟩
theorem hholds_any (hm:m < W64) (f:Int) (h0:0 ≤ f) (h1:f < 64) :
  Calls Tryz.prog 175 #[.agg #[.int .i64 n,.int .u64 (m:Nat)],.int .i64 f] w fun e w'=>e=.returned (.bool (m.testBit f.toNat))∧Below w.heap.size w w':=by
 have hd:=holds_form m f.toNat hm
 go_enter Tryz.func175,Tryz.ntmps175
 go_wp2
 go_ret
 exact ⟨rfl,bX⟩
theorem xcheck_ok (h:Sh n m) :
  Calls Tryz.prog 78 #[.agg #[.int .i64 n,.int .u64 (m:Nat)]] w fun e w'=>e=.returned (.int .i64 0)∧Below w.heap.size w w':=by
 have hH:=Lib.hid h
 obtain ⟨h0,h1,h2⟩:=h
 have hd:decide (n < 0)=false:=decide_eq_false (by omega)
 have hd2:decide (48 < n)=false:=decide_eq_false (by omega)
 clear h2
 go_enter Tryz.func78,Tryz.ntmps78
 go_wp2
 go_loopw [3] (fun i wr=>∃ k:Int,i=.int .i64 k∧n ≤ k∧k ≤ 64∧Sp wr w.heap.size n m∧Below w.heap.size w wr) (fun i _=>(64 - intOf i).toNat)
 case atStart=>exact ⟨n,rfl,by omega,by omega,Sp.new _ _ _ _,bX⟩
 case round=>
  obtain ⟨k,rfl,hk,hk1,hs,hb_wr⟩:=hrel
  have hsr:=hb_wr.size
  have hsl:=hs.lt
  obtain ⟨c0,c1⟩:=id hs
  by_cases hlt:k < 64
  ·have e:decide (k < 64)=true:=decide_eq_true hlt
   go_wp2_with (go_at_call 97;refine (xis_any k (by omega) (by omega)).mono ?_;rintro e w1 ⟨rfl,hb_w1⟩;obtain ⟨hc_w1,hf_w1⟩:=bcell hb_w1;have hs_w1:=hb_w1.size;(try simp only [zZ] at hs_w1);rw [hH.out.bit k.toNat (by omega)])
   go_roundw
   case rel=>exact ⟨k + 1,by go_num,by omega,by omega,hs.later hb_w1,bX⟩
   case measure=>simp [intOf];omega
  ·have e:decide (k < 64)=false:=decide_eq_false hlt
   go_wp2
   go_ret
   exact ⟨rfl,bX⟩
theorem xcheck_bad (hm:m < W64) (h:¬ Sh n m) :
  Calls Tryz.prog 78 #[.agg #[.int .i64 n,.int .u64 (m:Nat)]] w fun e w'=>e=.returned (.int .i64 2)∧Below w.heap.size w w':=by
 have hH:=Lib.hid h
 clear h
 by_cases h0:n < 0
 ·have hd:decide (n < 0)=true:=decide_eq_true (by omega)
  go_enter Tryz.func78,Tryz.ntmps78
  go_wp2
  go_ret
  exact ⟨rfl,bX⟩
 have hd:decide (n < 0)=false:=decide_eq_false (by omega)
 by_cases h1:48 < n
 ·have hd2:decide (48 < n)=true:=decide_eq_true (by omega)
  go_enter Tryz.func78,Tryz.ntmps78
  go_wp2
  go_ret
  exact ⟨rfl,bX⟩
 have hd2:decide (48 < n)=false:=decide_eq_false (by omega)
 go_enter Tryz.func78,Tryz.ntmps78
 go_wp2
 go_loopw [3] (fun i wr=>∃ k:Int,i=.int .i64 k∧n ≤ k∧k ≤ 64∧(∀ j:Nat,n.toNat ≤ j → (j:Int) < k → m.testBit j=false)∧Sp wr w.heap.size n m∧Below w.heap.size w wr) (fun i _=>(64 - intOf i).toNat)
 case atStart=>exact ⟨n,rfl,by omega,by omega,fun j _ _=>by omega,Sp.new _ _ _ _,bX⟩
 case round=>
  obtain ⟨k,rfl,hk,hk1,hb0,hs,hb_wr⟩:=hrel
  have hsr:=hb_wr.size
  have hsl:=hs.lt
  obtain ⟨c0,c1⟩:=id hs
  have HB:=Lib.hid hb0
  clear hb0
  by_cases hlt:k < 64
  ·have e:decide (k < 64)=true:=decide_eq_true hlt
   rcases hbit:m.testBit k.toNat with _ | _
   ·go_wp2_with (go_at_call 97;refine (xis_any k (by omega) (by omega)).mono ?_;rintro e w1 ⟨rfl,hb_w1⟩;obtain ⟨hc_w1,hf_w1⟩:=bcell hb_w1;have hs_w1:=hb_w1.size;(try simp only [zZ] at hs_w1);rw [hbit])
    go_roundw
    case rel=>exact ⟨k + 1,by go_num,by omega,by omega,fun j j0 j1=>by
      by_cases ej:(j:Int)=k
      ·rw [show j=k.toNat by omega];exact hbit
      ·exact HB.out j j0 (by omega),hs.later hb_w1,bX⟩
    case measure=>simp [intOf];omega
   ·go_wp2_with (go_at_call 97;refine (xis_any k (by omega) (by omega)).mono ?_;rintro e w1 ⟨rfl,hb_w1⟩;obtain ⟨hc_w1,hf_w1⟩:=bcell hb_w1;have hs_w1:=hb_w1.size;(try simp only [zZ] at hs_w1);rw [hbit])
    go_ret
    exact ⟨rfl,bX⟩
  ·exact absurd (sh_of_bits hm (by omega) (by omega) fun j j0 j1=>HB.out j j0 (by omega)) hH.out
theorem hpack_ok (h:Sh n m) :
  Calls Tryz.prog 75 #[.agg #[.int .i64 n,.int .u64 (m:Nat)]] w fun e w'=>e=.returned (.tuple #[.int .u64 (pk n m:Nat),.int .i64 0])∧Below w.heap.size w w':=by
 have hH:=Lib.hid h
 have hm:=h.lt
 obtain ⟨h0,h1,h2⟩:=h
 clear h2
 have hp:=Lib.hid (pk_form hH.out)
 go_enter Tryz.func75,Tryz.ntmps75
 go_wp2_with (go_at_call 155;refine (hcheck_ok hH.out).mono ?_;rintro e w1 ⟨rfl,hb_w1⟩;obtain ⟨hc_w1,hf_w1⟩:=bcell hb_w1;have hz_w1_w_0:w.heap.size < w1.heap.size:=lY hb_w1.size;have hs_w1:=hb_w1.size;(try simp only [zZ] at hs_w1))
 go_ret2
 rw [← hp.out]
 exact ⟨rfl,bX⟩
theorem hpack_bad (hm:m < W64) (h:¬ Sh n m) :
  Calls Tryz.prog 75 #[.agg #[.int .i64 n,.int .u64 (m:Nat)]] w fun e w'=>e=.returned (.tuple #[.int .u64 0,.int .i64 2])∧Below w.heap.size w w':=by
 have hH:=Lib.hid h
 clear h
 go_enter Tryz.func75,Tryz.ntmps75
 go_wp2_with (go_at_call 155;refine (hcheck_bad hm hH.out).mono ?_;rintro e w1 ⟨rfl,hb_w1⟩;obtain ⟨hc_w1,hf_w1⟩:=bcell hb_w1;have hz_w1_w_0:w.heap.size < w1.heap.size:=lY hb_w1.size;have hs_w1:=hb_w1.size;(try simp only [zZ] at hs_w1))
 go_ret2
 exact ⟨rfl,bX⟩
theorem xpack_ok (h:Sh n m) :
  Calls Tryz.prog 163 #[.agg #[.int .i64 n,.int .u64 (m:Nat)]] w fun e w'=>e=.returned (.tuple #[.int .u64 (pk n m:Nat),.int .i64 0])∧Below w.heap.size w w':=by
 have hH:=Lib.hid h
 have hm:=h.lt
 obtain ⟨h0,h1,h2⟩:=h
 clear h2
 have hp:Hid (11889503016258109440 + (m:Int) * 256 + n=((pk n m:Nat):Int)):=by
  show _=_
  unfold pk
  omega
 go_enter Tryz.func163,Tryz.ntmps163
 go_wp2_with (go_at_call 78;refine (xcheck_ok hH.out).mono ?_;rintro e w1 ⟨rfl,hb_w1⟩;obtain ⟨hc_w1,hf_w1⟩:=bcell hb_w1;have hz_w1_w_0:w.heap.size < w1.heap.size:=lY hb_w1.size;have hs_w1:=hb_w1.size;(try simp only [zZ] at hs_w1))
 go_ret2
 rw [← hp.out]
 exact ⟨rfl,bX⟩
theorem xpack_bad (hm:m < W64) (h:¬ Sh n m) :
  Calls Tryz.prog 163 #[.agg #[.int .i64 n,.int .u64 (m:Nat)]] w fun e w'=>e=.returned (.tuple #[.int .u64 0,.int .i64 2])∧Below w.heap.size w w':=by
 have hH:=Lib.hid h
 clear h
 go_enter Tryz.func163,Tryz.ntmps163
 go_wp2_with (go_at_call 78;refine (xcheck_bad hm hH.out).mono ?_;rintro e w1 ⟨rfl,hb_w1⟩;obtain ⟨hc_w1,hf_w1⟩:=bcell hb_w1;have hz_w1_w_0:w.heap.size < w1.heap.size:=lY hb_w1.size;have hs_w1:=hb_w1.size;(try simp only [zZ] at hs_w1))
 go_ret2
 exact ⟨rfl,bX⟩
end
theorem res_shape {fn:Func} {p u:Tmp} (h:fn.results=#[.cell p 34,.tmp u]) {tmps:Array Value} {w:World} {g:Nat} {v0 v1:Value} (hp:tmps.getD p undef=.pointer (some ⟨g,0,none⟩))
  (h0:w.cell? ⟨g,0,none⟩=some v0) (h1:w.cell? ⟨g,1,none⟩=some v1):(results fn tmps).run Tryz.prog w=.ok (.tuple #[.agg #[v0,v1],tmps.getD u undef]) w:=by
 rw [results_cell_tmp h,hp]
 simp [go_sem,Result.andThen,h0,h1,asAddr]
instance (n:Int) (xs:List Int) (k:Nat):Decidable (AllF n xs k):=inferInstanceAs (Decidable (∀ j,j < k → _))
def nxN (n:Int) (m:Nat) (a:Int):Int:=if Sh n m∧0 ≤ a∧a ≤ n then (match nx m a.toNat (n - a).toNat with | some i=>(i:Int) | none=>0) else 0
def nxY (n:Int) (m:Nat) (a:Int):Int:=if Sh n m then (if 0 ≤ a∧a ≤ n then (match nx m a.toNat (n - a).toNat with | some _=>0 | none=>3) else 1) else 2
theorem nx_skip {m:Nat} {a k:Nat} (h:m.testBit a=false):nx m a (k + 1)=nx m (a + 1) k:=by rw [nx,h];rfl
theorem nx_hit {m:Nat} {a k:Nat} (h:m.testBit a=true):nx m a (k + 1)=some a:=by rw [nx,h];rfl
section
variable {n:Int} {m:Nat} {w:World}
theorem and255 (x:Nat) (hx:x < W64):Go.bits .and .u64 (x:Int) 255=uN x∧Go.bits .and .u64 ((x:Int) / 256) 281474976710655=((uM x:Nat):Int):=by
 have e1:(255:Int)=((255:Nat):Int):=rfl
 have e2:(281474976710655:Int)=((281474976710655:Nat):Int):=rfl
 have e3:(x:Int) / 256=((x / 256:Nat):Int):=by omega
 have h8:x &&& 255=x % 256:=Nat.and_two_pow_sub_one_eq_mod x 8
 have h48:(x / 256) &&& 281474976710655=x / 256 % 281474976710656:=Nat.and_two_pow_sub_one_eq_mod (x / 256) 48
 unfold W64 at hx
 constructor
 ·rw [e1,u64_and_nat _ _ hx (by decide),h8];rfl
 ·rw [e2,e3,u64_and_nat _ _ (by omega) (by decide),h48];rfl
theorem uM_lt (x:Nat):uM x < W64:=by unfold uM W64;omega
theorem hcheck_at {a b:Int} (ha:a=n) (hb:b=((m:Nat):Int)) (hm:m < W64) (y:Int) (hy:(Sh n m∧y=0) ∨ (¬ Sh n m∧y=2)) :
  Calls Tryz.prog 155 #[.agg #[.int .i64 a,.int .u64 b]] w fun e w'=>e=.returned (.int .i64 y)∧Below w.heap.size w w':=by
 subst ha hb
 rcases hy with ⟨h,rfl⟩ | ⟨h,rfl⟩
 ·exact hcheck_ok h
 ·exact hcheck_bad hm h
theorem xpack_at {a b:Int} (ha:a=n) (hb:b=((m:Nat):Int)) (hm:m < W64) (z y:Int) (hy:(Sh n m∧z=((pk n m:Nat):Int)∧y=0) ∨ (¬ Sh n m∧z=0∧y=2)) :
  Calls Tryz.prog 163 #[.agg #[.int .i64 a,.int .u64 b]] w fun e w'=>e=.returned (.tuple #[.int .u64 z,.int .i64 y])∧Below w.heap.size w w':=by
 subst ha hb
 rcases hy with ⟨h,rfl,rfl⟩ | ⟨h,rfl,rfl⟩
 ·exact xpack_ok h
 ·exact xpack_bad hm h
def unN (x:Nat):Int:=if Un x then uN x else 0
def unM (x:Nat):Nat:=if Un x then uM x else 0
def unY (x:Nat):Int:=if Un x then 0 else 2
theorem hunpack_any (x:Nat) (hx:x < W64) :
  Calls Tryz.prog 253 #[.int .u64 (x:Nat)] w fun e w'=>e=.returned (.tuple #[.agg #[.int .i64 (unN x),.int .u64 (unM x:Nat)],.int .i64 (unY x)])∧Below w.heap.size w w':=by
 obtain ⟨e1,e2⟩:=and255 x hx
 have b1:0 ≤ Go.bits .and .u64 (x:Int) 255∧Go.bits .and .u64 (x:Int) 255 ≤ 255:=by rw [e1];unfold uN;omega
 by_cases ht:x / 72057594037927936=165
 ·have hd:((x:Int) / 72057594037927936 != 165)=false:=by simp;omega
  by_cases h:Sh (uN x) (uM x)
  ·have hu:Un x:=⟨ht,h⟩
   have k1:Hid (unN x=uN x):=Lib.hid (if_pos hu)
   have k2:Hid (unM x=uM x):=Lib.hid (if_pos hu)
   have k3:Hid (unY x=0):=Lib.hid (if_pos hu)
   have hH:=Lib.hid h
   have E1:=Lib.hid e1
   have E2:=Lib.hid e2
   rw [k1.out,k2.out,k3.out]
   clear h hu e1 e2 ht
   go_enter Tryz.func253,Tryz.ntmps253
   go_wp2_with (go_at_call 155;refine (hcheck_at E1.out E2.out (uM_lt x) 0 (.inl ⟨hH.out,rfl⟩)).mono ?_;rintro e w1 ⟨rfl,hb_w1⟩;obtain ⟨hc_w1,hf_w1⟩:=bcell hb_w1;have hz_w1_w_0:w.heap.size < w1.heap.size:=lY hb_w1.size;have hz_w1_w_1:w.heap.size + 1 < w1.heap.size:=lY hb_w1.size;have hs_w1:=hb_w1.size;(try simp only [zZ] at hs_w1))
   have j0:w1.cell? ⟨w.heap.size,0,none⟩=_:=(hc_w1 _ _ lX).trans (by simp [go_sem];rfl)
   have j1:w1.cell? ⟨w.heap.size,1,none⟩=_:=(hc_w1 _ _ lX).trans (by simp [go_sem];rfl)
   rw [E1.out,E2.out]
   exact bodyPost_ret (res_shape rfl rfl (set_two _ _ j0 j1).1 (set_two _ _ j0 j1).2) rfl ⟨rfl,bX⟩
  ·have hu:¬ Un x:=fun hh=>h hh.2
   have k1:Hid (unN x=0):=Lib.hid (if_neg hu)
   have k2:Hid (unM x=0):=Lib.hid (if_neg hu)
   have k3:Hid (unY x=2):=Lib.hid (if_neg hu)
   have hH:=Lib.hid h
   have E1:=Lib.hid e1
   have E2:=Lib.hid e2
   rw [k1.out,k2.out,k3.out]
   clear h hu e1 e2 ht
   go_enter Tryz.func253,Tryz.ntmps253
   go_wp2_with (go_at_call 155;refine (hcheck_at E1.out E2.out (uM_lt x) 2 (.inr ⟨hH.out,rfl⟩)).mono ?_;rintro e w1 ⟨rfl,hb_w1⟩;obtain ⟨hc_w1,hf_w1⟩:=bcell hb_w1;have hz_w1_w_0:w.heap.size < w1.heap.size:=lY hb_w1.size;have hz_w1_w_1:w.heap.size + 1 < w1.heap.size:=lY hb_w1.size;have hs_w1:=hb_w1.size;(try simp only [zZ] at hs_w1))
   have j0:w1.cell? ⟨w.heap.size,0,none⟩=_:=(hc_w1 _ _ lX).trans (by simp [go_sem];rfl)
   have j1:w1.cell? ⟨w.heap.size,1,none⟩=_:=(hc_w1 _ _ lX).trans (by simp [go_sem];rfl)
   exact bodyPost_ret (res_shape rfl rfl (set_two _ _ j0 j1).1 (set_two _ _ j0 j1).2) rfl ⟨rfl,bX⟩
 ·have hd:((x:Int) / 72057594037927936 != 165)=true:=by simp;omega
  have hu:¬ Un x:=fun hh=>ht hh.1
  have k1:Hid (unN x=0):=Lib.hid (if_neg hu)
  have k2:Hid (unM x=0):=Lib.hid (if_neg hu)
  have k3:Hid (unY x=2):=Lib.hid (if_neg hu)
  rw [k1.out,k2.out,k3.out]
  clear hu e1 e2 ht
  go_enter Tryz.func253,Tryz.ntmps253
  go_wp2
  refine bodyPost_ret (res_shape (v0:=.int .i64 0) (v1:=.int .u64 0) rfl rfl ?_ ?_) rfl ⟨rfl,bX⟩
  ·trace_state;simp [go_sem]
  ·simp [go_sem]
theorem xunpack_any (x:Nat) (hx:x < W64) :
  Calls Tryz.prog 173 #[.int .u64 (x:Nat)] w fun e w'=>e=.returned (.tuple #[.agg #[.int .i64 (unN x),.int .u64 (unM x:Nat)],.int .i64 (unY x)])∧Below w.heap.size w w':=by
 have e1:(x:Int) % 256=uN x:=by unfold uN;omega
 have e2:(IntKind.u64.wrap ((x:Int) / 256)).tmod 281474976710656=((uM x:Nat):Int):=by
  unfold W64 at hx
  rw [IntKind.wrap_u64,Int.tmod_eq_emod_of_nonneg (by omega)]
  unfold uM
  omega
 by_cases hu:Un x
 ·obtain ⟨h,hp⟩:=(un_iff hx).1 hu
  ·have k1:Hid (unN x=uN x):=Lib.hid (if_pos hu)
   have k2:Hid (unM x=uM x):=Lib.hid (if_pos hu)
   have k3:Hid (unY x=0):=Lib.hid (if_pos hu)
   have hH:=Lib.hid h
   have hP:Hid ((x:Int)=((pk (uN x) (uM x):Nat):Int)):=Lib.hid (by rw [hp])
   have hd:((x:Int) != (x:Int))=false:=bne_self_eq_false _
   have E1:=Lib.hid e1
   have E2:=Lib.hid e2
   rw [k1.out,k2.out,k3.out]
   clear h hu e1 e2 hp
   go_enter Tryz.func173,Tryz.ntmps173
   go_wp2_with (go_at_call 163;refine (xpack_at E1.out E2.out (uM_lt x) (x:Int) 0 (.inl ⟨hH.out,hP.out,rfl⟩)).mono ?_;rintro e w1 ⟨rfl,hb_w1⟩;obtain ⟨hc_w1,hf_w1⟩:=bcell hb_w1;have hz_w1_w_0:w.heap.size < w1.heap.size:=lY hb_w1.size;have hz_w1_w_1:w.heap.size + 1 < w1.heap.size:=lY hb_w1.size;have hs_w1:=hb_w1.size;(try simp only [zZ] at hs_w1))
   have j0:w1.cell? ⟨w.heap.size,0,none⟩=_:=(hc_w1 _ _ lX).trans (by simp [go_sem];rfl)
   have j1:w1.cell? ⟨w.heap.size,1,none⟩=_:=(hc_w1 _ _ lX).trans (by simp [go_sem];rfl)
   rw [E1.out,E2.out]
   exact bodyPost_ret (res_shape rfl rfl (set_two _ _ j0 j1).1 (set_two _ _ j0 j1).2) rfl ⟨rfl,bX⟩
 ·have k1:Hid (unN x=0):=Lib.hid (if_neg hu)
  have k2:Hid (unM x=0):=Lib.hid (if_neg hu)
  have k3:Hid (unY x=2):=Lib.hid (if_neg hu)
  have E1:=Lib.hid e1
  have E2:=Lib.hid e2
  rw [k1.out,k2.out,k3.out]
  by_cases h:Sh (uN x) (uM x)
  ·obtain ⟨z,hz⟩:∃ z:Int,Hid (z=((pk (uN x) (uM x):Nat):Int)):=⟨_,rfl⟩
   have hd:(z != (x:Int))=true:=by
    rw [bne_iff_ne]
    intro hzx
    have:=hz.out
    exact hu ((un_iff hx).2 ⟨h,by omega⟩)
   have hH:=Lib.hid h
   clear h hu e1 e2
   go_enter Tryz.func173,Tryz.ntmps173
   go_wp2_with (go_at_call 163;refine (xpack_at E1.out E2.out (uM_lt x) z 0 (.inl ⟨hH.out,hz.out,rfl⟩)).mono ?_;rintro e w1 ⟨rfl,hb_w1⟩;obtain ⟨hc_w1,hf_w1⟩:=bcell hb_w1;have hz_w1_w_0:w.heap.size < w1.heap.size:=lY hb_w1.size;have hz_w1_w_1:w.heap.size + 1 < w1.heap.size:=lY hb_w1.size;have hs_w1:=hb_w1.size;(try simp only [zZ] at hs_w1))
   have j0:w1.cell? ⟨w.heap.size,0,none⟩=_:=(hc_w1 _ _ lX).trans (by simp [go_sem];rfl)
   have j1:w1.cell? ⟨w.heap.size,1,none⟩=_:=(hc_w1 _ _ lX).trans (by simp [go_sem];rfl)
   exact bodyPost_ret (res_shape rfl rfl (set_two _ _ j0 j1).1 (set_two _ _ j0 j1).2) rfl ⟨rfl,bX⟩
  ·have hH:=Lib.hid h
   clear h hu e1 e2
   go_enter Tryz.func173,Tryz.ntmps173
   go_wp2_with (go_at_call 163;refine (xpack_at E1.out E2.out (uM_lt x) 0 2 (.inr ⟨hH.out,rfl,rfl⟩)).mono ?_;rintro e w1 ⟨rfl,hb_w1⟩;obtain ⟨hc_w1,hf_w1⟩:=bcell hb_w1;have hz_w1_w_0:w.heap.size < w1.heap.size:=lY hb_w1.size;have hz_w1_w_1:w.heap.size + 1 < w1.heap.size:=lY hb_w1.size;have hs_w1:=hb_w1.size;(try simp only [zZ] at hs_w1))
   have j0:w1.cell? ⟨w.heap.size,0,none⟩=_:=(hc_w1 _ _ lX).trans (by simp [go_sem];rfl)
   have j1:w1.cell? ⟨w.heap.size,1,none⟩=_:=(hc_w1 _ _ lX).trans (by simp [go_sem];rfl)
   exact bodyPost_ret (res_shape rfl rfl (set_two _ _ j0 j1).1 (set_two _ _ j0 j1).2) rfl ⟨rfl,bX⟩
end
theorem nx_bad {n:Int} {m:Nat} {a:Int} (h:¬ Sh n m):nxN n m a=0∧nxY n m a=2:=⟨if_neg fun hh=>h hh.1,if_neg h⟩
theorem nx_out {n:Int} {m:Nat} {a:Int} (h:Sh n m) (ha:¬ (0 ≤ a∧a ≤ n)):nxN n m a=0∧nxY n m a=1:=⟨if_neg fun hh=>ha hh.2,by unfold nxY;rw [if_pos h,if_neg ha]⟩
theorem nx_some {n:Int} {m:Nat} {a:Int} {i:Nat} (h:Sh n m) (ha:0 ≤ a∧a ≤ n) (hx:nx m a.toNat (n - a).toNat=some i):nxN n m a=(i:Int)∧nxY n m a=0:=by
 unfold nxN nxY
 rw [if_pos ⟨h,ha⟩,if_pos h,if_pos ha,hx]
 exact ⟨rfl,rfl⟩
theorem nx_none {n:Int} {m:Nat} {a:Int} (h:Sh n m) (ha:0 ≤ a∧a ≤ n) (hx:nx m a.toNat (n - a).toNat=none):nxN n m a=0∧nxY n m a=3:=by
 unfold nxN nxY
 rw [if_pos ⟨h,ha⟩,if_pos h,if_pos ha,hx]
 exact ⟨rfl,rfl⟩
section
variable {n:Int} {m:Nat} {w:World}
set_option maxHeartbeats 1000000 in
theorem hnext_any (hm:m < W64) (a:Int) :
  Calls Tryz.prog 240 #[.agg #[.int .i64 n,.int .u64 (m:Nat)],.int .i64 a] w fun e w'=>e=.returned (.tuple #[.int .i64 (nxN n m a),.int .i64 (nxY n m a)])∧Below w.heap.size w w':=by
 by_cases h:Sh n m
 ·have hH:=Lib.hid h
  have h0:=h.1
  have h1:=h.2.1
  by_cases ha:0 ≤ a∧a ≤ n
  ·have hN:=Lib.hid ha
   have hd:decide (a < 0)=false:=decide_eq_false (by omega)
   have hd1:decide (n < a)=false:=decide_eq_false (by omega)
   obtain ⟨a0,a1⟩:=ha
   clear h
   go_enter Tryz.func240,Tryz.ntmps240
   go_wp2_with (go_at_call 155;refine (hcheck_ok hH.out).mono ?_;rintro e w1 ⟨rfl,hb_w1⟩;obtain ⟨hc_w1,hf_w1⟩:=bcell hb_w1;have hz_w1_w_0:w.heap.size < w1.heap.size:=lY hb_w1.size;have hs_w1:=hb_w1.size;(try simp only [zZ] at hs_w1))
   have S1:Sp w1 w.heap.size n m:=(Sp.new w n m 34).later hb_w1
   have B1:Below w.heap.size w w1:=bX
   clear hc_w1 hf_w1
   go_loopw [7] (fun i wr=>∃ k:Int,i=.int .i64 k∧a ≤ k∧k ≤ n∧nx m a.toNat (n - a).toNat=nx m k.toNat (n - k).toNat∧Sp wr w.heap.size n m∧Below w.heap.size w wr) (fun i _=>(n - intOf i).toNat)
   case atStart=>exact ⟨a,rfl,by omega,by omega,rfl,S1,B1⟩
   case round=>
    obtain ⟨k,rfl,hk0,hk1,hx,hs,hb_wr⟩:=hrel
    have hX:=Lib.hid hx
    clear hx
    have hsr:=hb_wr.size
    have hsl:=hs.lt
    obtain ⟨c0,c1⟩:=id hs
    by_cases hlt:k < n
    ·have e:decide (k < n)=true:=decide_eq_true hlt
     have e2:(n - k).toNat=(n - (k + 1)).toNat + 1:=by omega
     rcases hbit:m.testBit k.toNat with _ | _
     ·have HX:Hid (nx m a.toNat (n - a).toNat=nx m (k + 1).toNat (n - (k + 1)).toNat):=Lib.hid (by rw [hX.out,e2,nx_skip hbit,show (k + 1).toNat=k.toNat + 1 by omega])
      go_wp2_with (go_at_call 175;refine (hholds_any hm k (by omega) (by omega)).mono ?_;rintro e w2 ⟨rfl,hb_w2⟩;rw [hbit];obtain ⟨hc_w2,hf_w2⟩:=bcell hb_w2;have hs_w2:=hb_w2.size;(try simp only [zZ] at hs_w2))
      go_roundw
      case rel=>exact ⟨k + 1,by go_num,by omega,by omega,HX.out,hs.later hb_w2,bX⟩
      case measure=>simp [intOf];omega
     ·obtain ⟨q1,q2⟩:=nx_some hH.out hN.out (hX.out.trans (by rw [e2];exact nx_hit hbit))
      replace q1:=q1.trans (show ((k.toNat:Nat):Int)=k by omega)
      go_wp2_with (go_at_call 175;refine (hholds_any hm k (by omega) (by omega)).mono ?_;rintro e w2 ⟨rfl,hb_w2⟩;rw [hbit];obtain ⟨hc_w2,hf_w2⟩:=bcell hb_w2;have hs_w2:=hb_w2.size;(try simp only [zZ] at hs_w2))
      go_ret2
      exact ⟨by first | (rw [q1,q2];done) | (rw [q1,q2];rfl) | rfl,bX⟩
    ·obtain rfl:k=n:=by omega
     have e:decide (k < k)=false:=decide_eq_false hlt
     obtain ⟨q1,q2⟩:=nx_none hH.out hN.out (hX.out.trans (by rw [Int.sub_self];rfl))
     go_wp2
     go_ret2
     exact ⟨by first | (rw [q1,q2];done) | (rw [q1,q2];rfl) | rfl,bX⟩
  ·obtain ⟨q1,q2⟩:=nx_out h ha
   rw [q1,q2]
   by_cases hd:a < 0
   ·have hd:decide (a < 0)=true:=decide_eq_true hd
    clear h ha
    go_enter Tryz.func240,Tryz.ntmps240
    go_wp2_with (go_at_call 155;refine (hcheck_ok hH.out).mono ?_;rintro e w1 ⟨rfl,hb_w1⟩;obtain ⟨hc_w1,hf_w1⟩:=bcell hb_w1;have hz_w1_w_0:w.heap.size < w1.heap.size:=lY hb_w1.size;have hs_w1:=hb_w1.size;(try simp only [zZ] at hs_w1))
    go_ret2
    exact ⟨rfl,bX⟩
   ·have hd1:decide (n < a)=true:=decide_eq_true (by omega)
    have hd:decide (a < 0)=false:=decide_eq_false hd
    clear h ha
    go_enter Tryz.func240,Tryz.ntmps240
    go_wp2_with (go_at_call 155;refine (hcheck_ok hH.out).mono ?_;rintro e w1 ⟨rfl,hb_w1⟩;obtain ⟨hc_w1,hf_w1⟩:=bcell hb_w1;have hz_w1_w_0:w.heap.size < w1.heap.size:=lY hb_w1.size;have hs_w1:=hb_w1.size;(try simp only [zZ] at hs_w1))
    go_ret2
    exact ⟨rfl,bX⟩
 ·have hH:=Lib.hid h
  obtain ⟨q1,q2⟩:=nx_bad (a:=a) h
  rw [q1,q2]
  clear h
  go_enter Tryz.func240,Tryz.ntmps240
  go_wp2_with (go_at_call 155;refine (hcheck_bad hm hH.out).mono ?_;rintro e w1 ⟨rfl,hb_w1⟩;obtain ⟨hc_w1,hf_w1⟩:=bcell hb_w1;have hz_w1_w_0:w.heap.size < w1.heap.size:=lY hb_w1.size;have hs_w1:=hb_w1.size;(try simp only [zZ] at hs_w1))
  go_ret2
  exact ⟨rfl,bX⟩
end
section
variable {A:Option Addr} {ws:List Nat} {w:World} (len cap:Nat)
theorem acheck_ok (h:len ≤ 16384):Calls Tryz.prog 216 #[.agg #[.slice A len cap]] w fun e w'=>e=.returned (.int .i64 0)∧Below w.heap.size w w':=by
 go_enter Tryz.func216,Tryz.ntmps216
 go_wp2
 go_ret
 exact ⟨rfl,bX⟩
theorem acheck_bad (h:¬ len ≤ 16384):Calls Tryz.prog 216 #[.agg #[.slice A len cap]] w fun e w'=>e=.returned (.int .i64 2)∧Below w.heap.size w w':=by
 have hd:16384 < len:=by omega
 go_enter Tryz.func216,Tryz.ntmps216
 go_wp2
 go_ret
 exact ⟨rfl,bX⟩
theorem racheck_ok (h:len ≤ 16384):Calls Tryz.prog 172 #[.agg #[.slice A len cap]] w fun e w'=>e=.returned (.int .i64 0)∧Below w.heap.size w w':=by
 go_enter Tryz.func172,Tryz.ntmps172
 go_wp2
 go_ret
 exact ⟨rfl,bX⟩
theorem racheck_bad (h:¬ len ≤ 16384):Calls Tryz.prog 172 #[.agg #[.slice A len cap]] w fun e w'=>e=.returned (.int .i64 2)∧Below w.heap.size w w':=by
 have hd:16384 < len:=by omega
 go_enter Tryz.func172,Tryz.ntmps172
 go_wp2
 go_ret
 exact ⟨rfl,bX⟩
def There (len:Nat) (a n:Int):Prop:=a ≤ len∧n ≤ len - a
theorem fits_any (a n:Int) (b:Bool) (hl:len ≤ 9223372036854775807) (ha:0 ≤ a) (hn:0 ≤ n) (hn2:n ≤ 18446744073709551615) (ha2:a ≤ 18446744073709551615) (hb:(b=true∧There len a n) ∨ (b=false∧¬ There len a n)) :
  Calls Tryz.prog 230 #[.agg #[.slice A len cap],.int .u64 a,.int .u64 n] w fun e w'=>e=.returned (.bool b)∧Below w.heap.size w w':=by
 by_cases h1:a ≤ len
 ·by_cases h2:n ≤ len - a
  ·obtain rfl:b=true:=by
    rcases hb with hb | hb
    ·exact hb.1
    ·exact absurd ⟨h1,h2⟩ hb.2
   clear hb
   have hd1:decide (a ≤ (len:Int))=true:=by simpa using h1
   have hd2:decide (n ≤ (len:Int) - a)=true:=by simpa using h2
   go_enter Tryz.func230,Tryz.ntmps230
   go_wp2
   go_ret
   exact ⟨rfl,bX⟩
  ·obtain rfl:b=false:=by
    rcases hb with hb | hb
    ·exact absurd hb.2.2 h2
    ·exact hb.1
   clear hb
   have hd1:decide (a ≤ (len:Int))=true:=by simpa using h1
   have hd2:decide (n ≤ (len:Int) - a)=false:=by simpa using h2
   go_enter Tryz.func230,Tryz.ntmps230
   go_wp2
   go_ret
   exact ⟨rfl,bX⟩
 ·obtain rfl:b=false:=by
   rcases hb with hb | hb
   ·exact absurd hb.2.1 h1
   ·exact hb.1
  clear hb
  have hd1:decide (a ≤ (len:Int))=false:=by simpa using h1
  go_enter Tryz.func230,Tryz.ntmps230
  go_wp2
  go_ret
  exact ⟨rfl,bX⟩
end
theorem res_arena {fn:Func} {p u:Tmp} (h:fn.results=#[.cell p 24,.tmp u]) {tmps:Array Value} {w:World} {g:Nat} {v0:Value} (hp:tmps.getD p undef=.pointer (some ⟨g,0,none⟩))
  (h0:w.cell? ⟨g,0,none⟩=some v0):(results fn tmps).run Tryz.prog w=.ok (.tuple #[.agg #[v0],tmps.getD u undef]) w:=by
 rw [results_cell_tmp h,hp]
 simp [go_sem,Result.andThen,h0,asAddr]
structure One (w:World) (g:Nat) (v:Value):Prop where
 c0:w.cell? ⟨g,0,none⟩=some v
 fr:w.frozen? ⟨g,0,none⟩=false
theorem One.set_ {w:World} {g:Nat} {u:Value} (h:One w g u) (v:Value):One (w.setCell ⟨g,0,none⟩ v) g v:=
 ⟨World.cell?_setCell_same _ _ _ h.c0,by rw [World.frozen?_setCell];exact h.fr⟩
theorem One.far {w:World} {g:Nat} {u:Value} (h:One w g u) {p:Addr} (hne:p.block ≠ g) (v:Value):One (w.setCell p v) g u:=
 ⟨(cO _ _ _ _ (by rintro rfl;exact hne rfl)).trans h.c0,by rw [World.frozen?_setCell];exact h.fr⟩
theorem One.below {w w':World} {g B:Nat} {u:Value} (h:One w g u) (hb:Below B w w') (hg:g < B):One w' g u:=
 ⟨((bcell hb).1 _ _ hg).trans h.c0,((bcell hb).2 _ _ hg).trans h.fr⟩
theorem One.new (w:World) (v:Value) (t:TypeId):One (w.alloc (.cells #[v] t)) w.heap.size v:=⟨by simp [go_sem],by simp [go_sem]⟩
theorem One.new1 (w:World) (o:Obj) (v:Value) (t:TypeId):One ((w.alloc o).alloc (.cells #[v] t)) (w.heap.size + 1) v:=by
 have h:=One.new (w.alloc o) v t
 rwa [World.size_alloc] at h
def FreshA (w:World) (ws:List Nat) (why:Int) (e:Ending) (w':World):Prop:=
 ∃ A cap,e=.returned (.tuple #[.agg #[.slice A ws.length cap],.int .i64 why])∧(Own w' w.heap.size A ws∧ws.length ≤ cap)∧Below w.heap.size w w'
theorem words_zeros (k:Nat):Words (List.replicate k 0):=fun x hx=>by
 rw [List.eq_of_mem_replicate hx];decide
theorem amake_ok (n:Int) (w:World) (h0:0 ≤ n) (h1:n ≤ 16384):Calls Tryz.prog 87 #[.int .i64 n] w fun e w'=>FreshA w (List.replicate n.toNat 0) 0 e w':=by
 obtain ⟨k,rfl⟩:=Int.eq_ofNat_of_zero_le h0
 have hmk:=run_make_words k (by omega)
 go_enter Tryz.func87,Tryz.ntmps87
 go_wp2
 rw [Int.toNat_natCast]
 refine bodyPost_ret (res_arena rfl rfl (g:=w.heap.size) (by simp [go_sem] <;> rfl)) rfl ⟨some ⟨w.heap.size + 1,0,none⟩,k,by rw [List.length_replicate];rfl,⟨?_,by rw [List.length_replicate];exact Nat.le_refl _⟩,bX⟩
 exact Own.of_block (block2 _ _ _) (by omega) (words_zeros k)
section
variable {A:Option Addr} {ws:List Nat} {w:World} (cap:Nat)
theorem load_bad (i:Int) (h:¬ ws.length ≤ 16384):Calls Tryz.prog 176 #[.agg #[.slice A ws.length cap],.int .u64 i] w fun e w'=>e=.returned (.tuple #[.int .u64 0,.int .i64 2])∧Below w.heap.size w w':=by
 have HR:=Lib.hid h
 clear h
 go_enter Tryz.func176,Tryz.ntmps176
 go_wp2_with (go_at_call 216;refine (acheck_bad _ _ HR.out).mono ?_;rintro e w1 ⟨rfl,hb_w1⟩;obtain ⟨hc_w1,hf_w1⟩:=bcell hb_w1;have hz_w1_w_0:w.heap.size < w1.heap.size:=lY hb_w1.size)
 go_ret2
 exact ⟨rfl,bX⟩
theorem load_out (i:Int) (h:ws.length ≤ 16384) (h0:0 ≤ i) (h1:i ≤ 18446744073709551615) (hi:¬ i < ws.length):Calls Tryz.prog 176 #[.agg #[.slice A ws.length cap],.int .u64 i] w fun e w'=>e=.returned (.tuple #[.int .u64 0,.int .i64 1])∧Below w.heap.size w w':=by
 have HI:Hid (¬ There ws.length i 1):=Lib.hid (fun hh=>by have:=hh.1;have:=hh.2;omega)
 clear hi
 go_enter Tryz.func176,Tryz.ntmps176
 go_wp2_with (first
  | (go_at_call 216;refine (acheck_ok _ _ h).mono ?_;rintro e w1 ⟨rfl,hb_w1⟩;obtain ⟨hc_w1,hf_w1⟩:=bcell hb_w1;have hz_w1_w_0:w.heap.size < w1.heap.size:=lY hb_w1.size)
  | (go_at_call 230;refine (fits_any _ _ i 1 false (by omega) h0 (by omega) (by omega) h1 (.inr ⟨rfl,HI.out⟩)).mono ?_;rintro e w2 ⟨rfl,hb_w2⟩;obtain ⟨hc_w2,hf_w2⟩:=bcell hb_w2;have hz_w2_w_0:w.heap.size < w2.heap.size:=lY hb_w2.size))
 go_ret2
 exact ⟨rfl,bX⟩
theorem load_in (i:Int) (hr:Row w w.heap.size A ws) (h:ws.length ≤ 16384) (h0:0 ≤ i) (hi:i < ws.length):Calls Tryz.prog 176 #[.agg #[.slice A ws.length cap],.int .u64 i] w fun e w'=>e=.returned (.tuple #[.int .u64 (ws.getD i.toNat 0:Nat),.int .i64 0])∧Below w.heap.size w w':=by
 have HI:Hid (There ws.length i 1):=Lib.hid ⟨by omega,by omega⟩
 obtain ⟨b,off,rfl,hb,hc⟩:=hr.at_ (by omega)
 obtain ⟨k,rfl⟩:=Int.eq_ofNat_of_zero_le h0
 rw [Int.toNat_natCast]
 obtain ⟨x,hx⟩:=named ws k
 have hck:=hc k (by omega)
 rw [hx.out] at hck
 rw [hx.out]
 clear hc
 go_enter Tryz.func176,Tryz.ntmps176
 go_wp2_with (first
  | (go_at_call 216;refine (acheck_ok _ _ h).mono ?_;rintro e w1 ⟨rfl,hb_w1⟩;obtain ⟨hc_w1,hf_w1⟩:=bcell hb_w1;have hz_w1_w_0:w.heap.size < w1.heap.size:=lY hb_w1.size;have hck1:w1.cell? ⟨b,off + k,none⟩=some (.int .u64 (x:Nat)):=((hc_w1 _ _ lX).trans ((World.cell?_alloc_lt _ _ ⟨_,_,_⟩ lX).trans hck));have hlt1:b < w1.heap.size:=(by omega))
  | (go_at_call 230;refine (fits_any _ _ k 1 true (by omega) h0 (by omega) (by omega) (by omega) (.inl ⟨rfl,HI.out⟩)).mono ?_;rintro e w2 ⟨rfl,hb_w2⟩;obtain ⟨hc_w2,hf_w2⟩:=bcell hb_w2;have hz_w2_w_0:w.heap.size < w2.heap.size:=lY hb_w2.size;have hck2:w2.cell? ⟨b,off + k,none⟩=some (.int .u64 (x:Nat)):=((hc_w2 _ _ lX).trans hck1)))
 go_ret2
 exact ⟨rfl,bX⟩
theorem changed_bad (r:Bool) (v:Value) (h:¬ ws.length ≤ 16384):Calls Tryz.prog 231 #[.agg #[.slice A ws.length cap],.bool r,v] w fun e w'=>FreshA w [] 2 e w':=by
 have HR:=Lib.hid h
 clear h
 go_enter Tryz.func231,Tryz.ntmps231
 go_wp2_with (go_at_call 216;refine (acheck_bad _ _ HR.out).mono ?_;rintro e w1 ⟨rfl,hb_w1⟩;obtain ⟨hc_w1,hf_w1⟩:=bcell hb_w1;have hz_w1_w_0:w.heap.size < w1.heap.size:=lY hb_w1.size;have hz_w1_w_1:w.heap.size + 1 < w1.heap.size:=lY hb_w1.size)
 have t1:One w1 (w.heap.size + 1) _:=(One.new1 w _ _ _).below hb_w1 lX
 exact bodyPost_ret (res_arena rfl rfl (t1.set_ _).c0) rfl ⟨none,0,rfl,⟨Own.nil _ _,Nat.le_refl _⟩,bX⟩
theorem changed_out (v:Value) (hr:Row w w.heap.size A ws) (h:ws.length ≤ 16384):Calls Tryz.prog 231 #[.agg #[.slice A ws.length cap],.bool false,v] w fun e w'=>FreshA w ws 1 e w':=by
 have hmk:=run_make_words ws.length (by omega)
 go_enter Tryz.func231,Tryz.ntmps231
 go_wp2_with (first
  | (go_at_call 216;refine (acheck_ok _ _ h).mono ?_;rintro e w1 ⟨rfl,hb_w1⟩;obtain ⟨hc_w1,hf_w1⟩:=bcell hb_w1;have hz_w1_w_0:w.heap.size < w1.heap.size:=lY hb_w1.size;have hz_w1_w_1:w.heap.size + 1 < w1.heap.size:=lY hb_w1.size)
  | (with_reducible refine wpList_copy_splice (o:=⟨some 23,_,_,_,_,_⟩) rfl (.tmp 20) (.tmp 22) 22 22 rfl 32 Tryz.underlying22 (by kernel_rfl) (some ⟨w1.heap.size,0,none⟩) A ws.length ws.length ws.length cap rfl rfl w1.heap.size 0 (vals (List.replicate ws.length 0)) 32 ?c1 (vals ws) ?c2 ?c3 ?c4 (vals_one ws) w1.heap.size w1 ?c5 ?c6 ?_))
 case c1=>exact heap_alloc_new _ _
 case c2=>rw [length_vals];exact (Nat.min_self _).symm
 case c3=>
  intro hp
  obtain ⟨ad,e,hc⟩:=(hr.later (w':=(w1.alloc (.cells (vals (List.replicate ws.length 0)).toArray 32))) bX).src hp
  first | exact ⟨rfl,ad,e,hc⟩ | exact ⟨ad,e,hc⟩
 case c4=>rw [length_vals,length_vals,List.length_replicate];omega
 case c5=>exact (Below.refl _ _).alloc (by simp) _
 case c6=>exact Nat.le_refl _
 intro w2 HG2 hb_w2
 obtain ⟨hc_w2,hf_w2⟩:=bcell hb_w2;have hz_w2_w_0:w.heap.size < w2.heap.size:=lY hb_w2.size;have hz_w2_w_1:w.heap.size + 1 < w2.heap.size:=lY hb_w2.size
 go_wp2
 have t1:One w1 (w.heap.size + 1) _:=(One.new1 w _ _ _).below hb_w1 lX
 have t2:One w2 (w.heap.size + 1) _:=t1.below hb_w2 lX
 have hG:=HG2.out
 rw [splice_all _ _ (by simp [vals])] at hG
 have ho:=Own.of_block hG (Nat.le_refl _) hr.words
 exact bodyPost_ret (res_arena rfl rfl (t2.set_ _).c0) rfl ⟨_,ws.length,rfl,⟨(ho.far (p:=⟨w.heap.size + 1,0,none⟩) (.inl lX) _).mono lX,Nat.le_refl _⟩,bX⟩
end
section
variable {A:Option Addr} {ws:List Nat} {w:World} (cap:Nat)
theorem changed_store (p0 p1:Nat) (us:List Nat) (hr:Row w w.heap.size A ws) (h:ws.length ≤ 16384) (hu:us.length=ws.length)
  (D:∀ (W:World) (g:Nat),W.heap[g]?=some (.cells (vals ws).toArray 32 (0,0)) → Below w.heap.size w W → w.heap.size ≤ g → Calls Tryz.prog 232 #[.slice (some ⟨g,0,none⟩) ws.length ws.length,.pointer (some ⟨p0,0,none⟩),.pointer (some ⟨p1,0,none⟩)] W fun e W'=>e=.returned (.tuple #[])∧Own W' g (some ⟨g,0,none⟩) us∧Below g W W') :
  Calls Tryz.prog 231 #[.agg #[.slice A ws.length cap],.bool true,.func (.func 232) #[] #[.pointer (some ⟨p0,0,none⟩),.pointer (some ⟨p1,0,none⟩)]] w fun e w'=>FreshA w us 0 e w':=by
 have hmk:=run_make_words ws.length (by omega)
 have HD:=Lib.hid D
 have HU:=Lib.hid hu
 clear D hu
 go_enter Tryz.func231,Tryz.ntmps231
 go_wp2_with (first
  | (go_at_call 216;refine (acheck_ok _ _ h).mono ?_;rintro e w1 ⟨rfl,hb_w1⟩;obtain ⟨hc_w1,hf_w1⟩:=bcell hb_w1;have hz_w1_w_0:w.heap.size < w1.heap.size:=lY hb_w1.size;have hz_w1_w_1:w.heap.size + 1 < w1.heap.size:=lY hb_w1.size)
  | (with_reducible refine wpList_copy_splice (o:=⟨some 23,_,_,_,_,_⟩) rfl (.tmp 20) (.tmp 22) 22 22 rfl 32 Tryz.underlying22 (by kernel_rfl) (some ⟨w1.heap.size,0,none⟩) A ws.length ws.length ws.length cap rfl rfl w1.heap.size 0 (vals (List.replicate ws.length 0)) 32 ?c1 (vals ws) ?c2 ?c3 ?c4 (vals_one ws) w1.heap.size w1 ?c5 ?c6 ?_))
 case c1=>exact heap_alloc_new _ _
 case c2=>rw [length_vals];exact (Nat.min_self _).symm
 case c3=>
  intro hp
  obtain ⟨ad,e,hc⟩:=(hr.later (w':=(w1.alloc (.cells (vals (List.replicate ws.length 0)).toArray 32))) bX).src hp
  first | exact ⟨rfl,ad,e,hc⟩ | exact ⟨ad,e,hc⟩
 case c4=>rw [length_vals,length_vals,List.length_replicate];omega
 case c5=>exact (Below.refl _ _).alloc (by simp) _
 case c6=>exact Nat.le_refl _
 intro w2 HG2 hb_w2
 obtain ⟨hc_w2,hf_w2⟩:=bcell hb_w2;have hz_w2_w_0:w.heap.size < w2.heap.size:=lY hb_w2.size;have hz_w2_w_1:w.heap.size + 1 < w2.heap.size:=lY hb_w2.size
 have hG:=HG2.out
 rw [splice_all _ _ (by simp [vals])] at hG
 have t1:One w1 (w.heap.size + 1) _:=(One.new1 w _ _ _).below hb_w1 lX
 have t2:One w2 (w.heap.size + 1) _:=t1.below hb_w2 lX
 have HG:=Lib.hid hG
 clear hG
 go_wp2_with fail
 go_at_call 232
 refine (HD.out w2 w1.heap.size HG.out bX lX).mono ?_
 rintro e w3 ⟨rfl,ho3,hb_w3⟩
 obtain ⟨hc_w3,hf_w3⟩:=bcell hb_w3;have hz_w3_w_0:w.heap.size < w3.heap.size:=lY hb_w3.size;have hz_w3_w_1:w.heap.size + 1 < w3.heap.size:=lY hb_w3.size
 have t3:One w3 (w.heap.size + 1) _:=t2.below hb_w3 lX
 go_wp2
 exact bodyPost_ret (res_arena rfl rfl (t3.set_ _).c0) rfl ⟨_,ws.length,by rw [HU.out];rfl,⟨(ho3.far (p:=⟨w.heap.size + 1,0,none⟩) (.inl lX) _).mono lX,by rw [HU.out];exact Nat.le_refl _⟩,bX⟩
theorem changed_clear (p0 p1:Nat) (us:List Nat) (hr:Row w w.heap.size A ws) (h:ws.length ≤ 16384) (hu:us.length=ws.length)
  (D:∀ (W:World) (g:Nat),W.heap[g]?=some (.cells (vals ws).toArray 32 (0,0)) → Below w.heap.size w W → w.heap.size ≤ g → Calls Tryz.prog 242 #[.slice (some ⟨g,0,none⟩) ws.length ws.length,.pointer (some ⟨p0,0,none⟩),.pointer (some ⟨p1,0,none⟩)] W fun e W'=>e=.returned (.tuple #[])∧Own W' g (some ⟨g,0,none⟩) us∧Below g W W') :
  Calls Tryz.prog 231 #[.agg #[.slice A ws.length cap],.bool true,.func (.func 242) #[] #[.pointer (some ⟨p0,0,none⟩),.pointer (some ⟨p1,0,none⟩)]] w fun e w'=>FreshA w us 0 e w':=by
 have hmk:=run_make_words ws.length (by omega)
 have HD:=Lib.hid D
 have HU:=Lib.hid hu
 clear D hu
 go_enter Tryz.func231,Tryz.ntmps231
 go_wp2_with (first
  | (go_at_call 216;refine (acheck_ok _ _ h).mono ?_;rintro e w1 ⟨rfl,hb_w1⟩;obtain ⟨hc_w1,hf_w1⟩:=bcell hb_w1;have hz_w1_w_0:w.heap.size < w1.heap.size:=lY hb_w1.size;have hz_w1_w_1:w.heap.size + 1 < w1.heap.size:=lY hb_w1.size)
  | (with_reducible refine wpList_copy_splice (o:=⟨some 23,_,_,_,_,_⟩) rfl (.tmp 20) (.tmp 22) 22 22 rfl 32 Tryz.underlying22 (by kernel_rfl) (some ⟨w1.heap.size,0,none⟩) A ws.length ws.length ws.length cap rfl rfl w1.heap.size 0 (vals (List.replicate ws.length 0)) 32 ?c1 (vals ws) ?c2 ?c3 ?c4 (vals_one ws) w1.heap.size w1 ?c5 ?c6 ?_))
 case c1=>exact heap_alloc_new _ _
 case c2=>rw [length_vals];exact (Nat.min_self _).symm
 case c3=>
  intro hp
  obtain ⟨ad,e,hc⟩:=(hr.later (w':=(w1.alloc (.cells (vals (List.replicate ws.length 0)).toArray 32))) bX).src hp
  first | exact ⟨rfl,ad,e,hc⟩ | exact ⟨ad,e,hc⟩
 case c4=>rw [length_vals,length_vals,List.length_replicate];omega
 case c5=>exact (Below.refl _ _).alloc (by simp) _
 case c6=>exact Nat.le_refl _
 intro w2 HG2 hb_w2
 obtain ⟨hc_w2,hf_w2⟩:=bcell hb_w2;have hz_w2_w_0:w.heap.size < w2.heap.size:=lY hb_w2.size;have hz_w2_w_1:w.heap.size + 1 < w2.heap.size:=lY hb_w2.size
 have hG:=HG2.out
 rw [splice_all _ _ (by simp [vals])] at hG
 have t1:One w1 (w.heap.size + 1) _:=(One.new1 w _ _ _).below hb_w1 lX
 have t2:One w2 (w.heap.size + 1) _:=t1.below hb_w2 lX
 have HG:=Lib.hid hG
 clear hG
 go_wp2_with fail
 go_at_call 242
 refine (HD.out w2 w1.heap.size HG.out bX lX).mono ?_
 rintro e w3 ⟨rfl,ho3,hb_w3⟩
 obtain ⟨hc_w3,hf_w3⟩:=bcell hb_w3;have hz_w3_w_0:w.heap.size < w3.heap.size:=lY hb_w3.size;have hz_w3_w_1:w.heap.size + 1 < w3.heap.size:=lY hb_w3.size
 have t3:One w3 (w.heap.size + 1) _:=t2.below hb_w3 lX
 go_wp2
 exact bodyPost_ret (res_arena rfl rfl (t3.set_ _).c0) rfl ⟨_,ws.length,by rw [HU.out];rfl,⟨(ho3.far (p:=⟨w.heap.size + 1,0,none⟩) (.inl lX) _).mono lX,by rw [HU.out];exact Nat.le_refl _⟩,bX⟩
end
end Go.Proofs.YtafpkaifaccehaaGreatDoor
namespace Go.Proofs.YtafpkaifaccehaaGreatDoor
open Go Go.RowKit
def overTo (us:List Nat) (a:Nat) (f:Nat → Nat):Nat → List Nat
 | 0=>us
 | k + 1=>(overTo us a f k).set (a + k) (f k)
theorem length_overTo (us:List Nat) (a:Nat) (f:Nat → Nat) (k:Nat):(overTo us a f k).length=us.length:=by
 induction k with
 | zero=>rfl
 | succ k ih=>rw [overTo,List.length_set,ih]
theorem overTo_at (us:List Nat) (a:Nat) (f:Nat → Nat) (k j:Nat):(overTo us a f k).getD j 0=if a ≤ j∧j < a + k∧j < us.length then f (j - a) else us.getD j 0:=by
 induction k with
 | zero=>rw [if_neg (by omega)];rfl
 | succ k ih=>
  rw [overTo]
  by_cases e:j=a + k
  ·subst e
   by_cases hj:a + k < us.length
   ·rw [if_pos ⟨by omega,by omega,hj⟩,List.getD_eq_getElem?_getD,List.getElem?_set_self (by rw [length_overTo];exact hj),Option.getD_some,Nat.add_sub_cancel_left]
   ·rw [if_neg (by omega),List.getD_eq_getElem?_getD,List.getElem?_eq_none (by rw [List.length_set,length_overTo];omega),List.getD_eq_getElem?_getD,List.getElem?_eq_none (by omega)]
  ·rw [List.getD_eq_getElem?_getD,List.getElem?_set_ne (fun h=>e h.symm),← List.getD_eq_getElem?_getD,ih]
   by_cases h:a ≤ j∧j < a + k∧j < us.length
   ·rw [if_pos h,if_pos (by omega)]
   ·rw [if_neg h,if_neg (by omega)]
theorem getD_ext {a b:List Nat} (hl:a.length=b.length) (h:∀ i,i < a.length → a.getD i 0=b.getD i 0):a=b:=
 List.ext_getElem hl fun i h1 h2=>by
  have:=h i h1
  simpa [h1,h2] using this
theorem splice_at (us vs:List Nat) (a j:Nat) (h:a + vs.length ≤ us.length) (hj:j < us.length):(splice us a vs).getD j 0=if a ≤ j∧j < a + vs.length then vs.getD (j - a) 0 else us.getD j 0:=by
 unfold splice
 simp only [List.getD_eq_getElem?_getD]
 by_cases h1:j < a
 ·rw [if_neg (by omega),List.getElem?_append_left (by rw [List.length_take];omega),List.getElem?_take,if_pos h1]
 ·rw [List.getElem?_append_right (by rw [List.length_take];omega),List.length_take,show min a us.length=a by omega]
  by_cases h2:j < a + vs.length
  ·rw [if_pos ⟨by omega,h2⟩,List.getElem?_append_left (by omega)]
  ·rw [if_neg (by omega),List.getElem?_append_right (by omega),List.getElem?_drop,show a + vs.length + (j - a - vs.length)=j by omega]
theorem splice_over (us vs:List Nat) (a:Nat) (f:Nat → Nat) (h:a + vs.length ≤ us.length) (hf:∀ i,i < vs.length → vs.getD i 0=f i):splice us a vs=overTo us a f vs.length:=by
 refine getD_ext (by rw [length_splice _ _ _ h,length_overTo]) fun j hj=>?_
 rw [length_splice _ _ _ h] at hj
 rw [splice_at us vs a j h hj,overTo_at]
 by_cases h1:a ≤ j∧j < a + vs.length
 ·rw [if_pos h1,if_pos ⟨h1.1,h1.2,hj⟩]
  exact hf _ (by omega)
 ·rw [if_neg h1,if_neg (by omega)]
theorem Own.setCells {w:World} {B g:Nat} {ws:List Nat} (h:Own w B (some ⟨g,0,none⟩) ws) {a:Nat} {vs:List Nat} (hv:Words vs) (hl:a + vs.length ≤ ws.length):Own (w.setCells g a (vals vs)) B (some ⟨g,0,none⟩) (splice ws a vs):=by
 induction vs generalizing w a ws with
 | nil=>
  have e:splice ws a []=ws:=by unfold splice;simp
  rw [e]
  exact h
 | cons v vs ih=>
  have hl':a + 1 + vs.length ≤ ws.length:=by simp only [List.length_cons] at hl;omega
  have h1:=h.set_ (i:=a) (x:=v) rfl (by omega) (hv v (by simp))
  have h2:=ih (w:=w.setCell ⟨g,a,none⟩ (.int .u64 (v:Nat))) (a:=a + 1) (ws:=ws.set a v) h1 (fun x hx=>hv x (by simp [hx])) (by rw [List.length_set];exact hl')
  have e:splice (ws.set a v) (a + 1) vs=splice ws a (v :: vs):=by
   have hL:a + (v :: vs).length ≤ ws.length:=hl
   have hS:a + 1 + vs.length ≤ (ws.set a v).length:=by rw [List.length_set];exact hl'
   refine getD_ext (by rw [length_splice _ _ _ hS,length_splice _ _ _ hL,List.length_set]) fun j hj=>?_
   rw [length_splice _ _ _ hS] at hj
   rw [splice_at _ _ _ _ hS hj,splice_at _ _ _ _ hL (by rw [List.length_set] at hj;exact hj)]
   simp only [List.length_cons]
   by_cases e1:j=a
   ·subst e1
    rw [if_neg (by omega),if_pos (by omega),Nat.sub_self]
    rw [List.length_set] at hj
    simp [hj]
   ·by_cases e2:a + 1 ≤ j∧j < a + 1 + vs.length
    ·rw [if_pos e2,if_pos (by omega)]
     obtain ⟨d,rfl⟩:∃ d,j=a + 1 + d:=⟨j - (a + 1),by omega⟩
     rw [show a + 1 + d - (a + 1)=d by omega,show a + 1 + d - a=d + 1 by omega]
     simp
    ·rw [if_neg e2,if_neg (by omega)]
     simp only [List.getD_eq_getElem?_getD]
     rw [List.getElem?_set_ne (fun h=>e1 h.symm)]
  rw [← e]
  exact h2
end Go.Proofs.YtafpkaifaccehaaGreatDoor
