/- Parts of the proof. -/
import Derived.Test.YtafpkaifaccehaaGreatDoorScavP12
import Derived.Defers
import Derived.Laws.Pointers
import Derived.Laws.LoneSync
import Derived.RegionCalls
import Derived.Deep.RegionHeld3
import Derived.Shelf.Abstract
set_option maxRecDepth 100000
set_option linter.unusedVariables false
set_option linter.unusedSimpArgs false
namespace Go.Proofs.YtafpkaifaccehaaGreatDoor
open Go.RowKit
theorem sy_disable (w:World):(callFunc 293 #[]).run Tryz.prog w=.ok (.value (.tuple #[])) w:=run_call_mark0 Tryz.func293 (by kernel_rfl) (by kernel_rfl) (by kernel_rfl) .disable (by kernel_rfl) w
theorem sy_enable (w:World):(callFunc 295 #[]).run Tryz.prog w=.ok (.value (.tuple #[])) w:=run_call_mark0 Tryz.func295 (by kernel_rfl) (by kernel_rfl) (by kernel_rfl) .enable (by kernel_rfl) w
theorem sy_acquire (a:Addr) (w:World):(callFunc 296 #[.pointer (some a)]).run Tryz.prog w=.ok (.value (.tuple #[])) w:=run_call_marked Tryz.func296 (by kernel_rfl) (by kernel_rfl) (by kernel_rfl) .acquire (by kernel_rfl) a w
theorem sy_release (a:Addr) (w:World):(callFunc 298 #[.pointer (some a)]).run Tryz.prog w=.ok (.value (.tuple #[])) w:=run_call_marked Tryz.func298 (by kernel_rfl) (by kernel_rfl) (by kernel_rfl) .releaseMerge (by kernel_rfl) a w
theorem sy_store_d (a:Addr) (x:Value) (u:FrameMode) (w:World) (hc:w.cell? a=some x) (hz:w.frozen? a=false) :
  CallsD Tryz.prog 266 #[.pointer (some a),.bool true] u w fun e u' w'=>u'=u∧(e=.returned (.tuple #[])∧w'=w.drew.setCell a (.int .u32 1)):=by
 have hc':w.drew.cell? a=some x:=by go_simp
 have hz':w.drew.frozen? a=false:=by go_simp
 have hst:=run_call_store (P:=Tryz.prog) Tryz.func285 (by kernel_rfl) (by kernel_rfl) (by kernel_rfl) (by kernel_rfl) (k:=.u32) (y:=1) hc' hz'
 go_enter_d Tryz.func266,Tryz.ntmps266
 go_wp2
 go_region_calls
 all_goals (go_end0;exact ⟨rfl,rfl⟩)
theorem sy_unlock_d (a:Addr) (u:FrameMode) (w:World) (hc:w.cell? a=some (.int .i32 1)) (hz:w.frozen? a=false) :
  CallsD Tryz.prog 265 #[.pointer (some a)] u w fun e u' w'=>u'=u∧(e=.returned (.tuple #[])∧w'=w.setCell a (.int .i32 0)):=by
 have hd:=sy_disable
 have he:=sy_enable
 have hr:=sy_release
 have hadd:=run_call_add (P:=Tryz.prog) Tryz.func299 (by kernel_rfl) (by kernel_rfl) (by kernel_rfl) .i32 (by kernel_rfl) (y:=-1) (s:=0) hc hz (by simp [go_sem];rfl)
 have hcv:=run_convert_to_unsafe (P:=Tryz.prog) (src:=306) (dst:=310) Tryz.underlying306 Tryz.underlying310 (by kernel_rfl) hc
 go_enter_d Tryz.func265,Tryz.ntmps265
 go_wp2
 go_end0
 go_wp2
 go_end0
 exact ⟨rfl,rfl⟩
theorem sy_lock (a:Addr) (w:World) (hc:w.cell? a=some (.int .i32 0)) (hz:w.frozen? a=false) :
  Calls Tryz.prog 264 #[.pointer (some a)] w fun e w'=>e=.returned (.tuple #[])∧w'=w.setCell a (.int .i32 1):=by
 have hd:=sy_disable
 have he:=sy_enable
 have ha:=sy_acquire
 have hcas:=run_call_cas_hit (P:=Tryz.prog) Tryz.func294 (by kernel_rfl) (by kernel_rfl) (by kernel_rfl) .i32 (by kernel_rfl) (y:=1) hc hz
 have hc':(w.setCell a (.int .i32 1)).cell? a=some (.int .i32 1):=World.cell?_setCell_same w a _ hc
 have hcv:=run_convert_to_unsafe (P:=Tryz.prog) (src:=306) (dst:=310) Tryz.underlying306 Tryz.underlying310 (by kernel_rfl) hc'
 go_enter Tryz.func264,Tryz.ntmps264
 go_wp2
 first | go_end0 | (simp only [Exit.inBlock,Exit.then];refine bodyPost_ret (results_none rfl _ _ _) rfl ?_) | refine bodyPost_ret (results_none rfl _ _ _) rfl ?_
 go_wp2
 go_end0
 exact ⟨rfl,rfl⟩
theorem sy_bload (a:Addr) (x:Int) (y:Bool) (hy:(x != 0)=y) (w:World) (hc:w.cell? a=some (.int .u32 x)):Calls Tryz.prog 235 #[.pointer (some a)] w fun e w'=>e=.returned (.bool y)∧w=w':=by
 have hl:=run_call_load (P:=Tryz.prog) Tryz.func263 (by kernel_rfl) (by kernel_rfl) (by kernel_rfl) .u32 (by kernel_rfl) hc
 go_enter Tryz.func235,Tryz.ntmps235
 go_wp2
 go_ret
 exact ⟨by first | rfl | (rw [hy]),rfl⟩
set_option maxHeartbeats 1600000 in
theorem sy_slow (w:World) (g:Nat) (v:Hv) (h:Hp) (hF:Framed h) (hO:Owned h) (hS:Filled h) (r:Rc w g v h 0 0 (.slice none 0 0) (.slice none 0 0)) :
  Calls Tryz.prog 236 #[.pointer (some ⟨g,4,none⟩),.func (.func 184) #[.pointer (some ⟨g,0,none⟩)] #[]] w fun e w'=>e=.returned (.tuple #[])∧(∃ L N,Rc w' g v h 1 0 L N∧Coll w' g h L N∧∀ q,InB L N q → w.heap.size ≤ q)∧w.grownBy w' (some g):=by
 have r1:=r.set5 1
 have HC:=Lib.hid (zcollect_any _ g v h hF hO hS r1)
 have l4:=r1.c4
 have hnot:∀ (x:Bool) (w:World),(Op.unary .not (.bool x)).run Tryz.prog w=.ok (.bool (!x)) w:=fun _ _=>rfl
 have hG:=grown_setg w g 5 (.int .i32 1)
 have c5:=r.c5
 have f5:=r.f5
 have c4:=r.c4
 clear r r1 hF hO hS
 go_enter_defers Tryz.func236,Tryz.ntmps236
 go_wp2_with fail
 go_at_call 264
 refine (sy_lock ⟨g,5,none⟩ _ c5 f5).mono ?_
 rintro e w0 ⟨rfl,rfl⟩
 go_wp2_with fail
 go_at_call 235
 refine (sy_bload _ 0 false rfl _ l4).mono ?_
 rintro e w0 ⟨rfl,rfl⟩
 go_wp2_with fail
 go_at_call 184
 refine HC.out.mono ?_
 rintro e w2 ⟨rfl,⟨L,N,hR2,hC2,hN2⟩,hg2⟩
 clear HC
 go_wp2
 refine leaves_cons (f:=266) (args:=#[.pointer (some ⟨g,4,none⟩),.bool true]) (by simp) (by simp [go_sem]) ?_
 refine (sy_store_d ⟨g,4,none⟩ (.int .u32 0) .returning _ hR2.c4 hR2.f4).mono ?_
 rintro e u' w'' ⟨rfl,rfl,rfl⟩
 have hR3:=(hR2.later (Below.drew (Below.refl _ _))).set4 1
 refine leaves_cons (f:=265) (args:=#[.pointer (some ⟨g,5,none⟩)]) (by simp [settle]) (by simp [go_sem]) ?_
 refine (sy_unlock_d ⟨g,5,none⟩ _ _ hR3.c5 hR3.f5).mono ?_
 rintro e u' w'' ⟨rfl,rfl,rfl⟩
 have hR4:=hR3.set5 0
 have hk4:w2.grownBy ((w2.drew.setCell ⟨g,4,none⟩ (.int .u32 1)).setCell ⟨g,5,none⟩ (.int .i32 0)) (some g):=grown_trans (grown_trans (grown_drew _ _) (grown_setg _ _ _ _)) (grown_setg _ _ _ _)
 rw [World.size_setCell] at hN2
 have hfin:(∃ L N,Rc ((w2.drew.setCell ⟨g,4,none⟩ (.int .u32 1)).setCell ⟨g,5,none⟩ (.int .i32 0)) g v h 1 0 L N∧Coll ((w2.drew.setCell ⟨g,4,none⟩ (.int .u32 1)).setCell ⟨g,5,none⟩ (.int .i32 0)) g h L N∧∀ q,InB L N q → w.heap.size ≤ q)∧w.grownBy ((w2.drew.setCell ⟨g,4,none⟩ (.int .u32 1)).setCell ⟨g,5,none⟩ (.int .i32 0)) (some g):=
  ⟨⟨L,N,hR4,hC2.kc (Kc.of_grown hk4),hN2⟩,grown_trans hG (grown_trans hg2 hk4)⟩
 simp only [Leaves,settle]
 exact ⟨_,results_none rfl _ _ _,rfl,hfin.1,hfin.2⟩
def RdL (w:World) (g:Nat) (v:Hv) (h:Hp) (L N:Value):Prop:=
 (L=.slice none 0 0∧N=.slice none 0 0∧Rc w g v h 0 0 (.slice none 0 0) (.slice none 0 0)) ∨ (Rc w g v h 1 0 L N∧Coll w g h L N)
theorem RdL.rd {w:World} {g:Nat} {v:Hv} {h:Hp} {L N:Value} (r:RdL w g v h L N):Rd w g v h:=by
 rcases r with ⟨_,_,r⟩ | ⟨r,c⟩
 ·exact .inl r
 ·exact .inr ⟨L,N,r,c⟩
theorem RdL.later {w w':World} {g:Nat} {v:Hv} {h:Hp} {L N:Value} (r:RdL w g v h L N) (hb:Below w.heap.size w w'):RdL w' g v h L N:=by
 rcases r with ⟨e1,e2,r⟩ | ⟨r,c⟩
 ·exact .inl ⟨e1,e2,r.later hb⟩
 ·exact .inr ⟨r.later hb,c.kc (Kc.of_below hb)⟩
theorem RdL.blocks {w:World} {g q:Nat} {v:Hv} {h:Hp} {L N:Value} (r:RdL w g v h L N) (hq:InB L N q):q ≠ g∧q < w.heap.size:=by
 rcases r with ⟨rfl,rfl,r⟩ | ⟨r,A,cl,b,rfl,h1,rfl,h2,h3,_⟩
 ·rcases hq with hq | hq <;> cases hq
 ·rcases hq with hq | hq
  ·rcases h1 with ⟨rfl,_⟩ | ⟨b',off,rfl,e1,e2,_⟩
   ·cases hq
   ·have:b'=q:=by simpa [Value.ownBlock] using hq
    subst this
    exact ⟨e1,e2⟩
  ·have:b=q:=by simpa [Value.ownBlock] using hq
   subst this
   exact ⟨h2,h3⟩
theorem RdL.far {w:World} {g b j:Nat} {v:Hv} {h:Hp} {L N:Value} (r:RdL w g v h L N) (hb:g < b) (hn:¬ InB L N b) (u:Value):RdL (w.setCell ⟨b,j,none⟩ u) g v h L N:=by
 rcases r with ⟨rfl,rfl,r⟩ | ⟨r,A,cl,bn,rfl,h1,rfl,h2,h3,h4⟩
 ·exact .inl ⟨rfl,rfl,r.far hb u⟩
 ·have far:∀ (k o:Nat) (y:Value),k ≠ b → w.cell? ⟨k,o,none⟩=some y → (w.setCell ⟨b,j,none⟩ u).cell? ⟨k,o,none⟩=some y:=fun k o y e hy=>(cO _ ⟨_,_,_⟩ ⟨_,_,_⟩ _ (by intro e';injection e' with e';exact e e'.symm)).trans hy
  refine .inr ⟨r.far hb u,A,cl,bn,rfl,?_,rfl,h2,by rw [World.size_setCell];exact h3,fun q hq=>far _ _ _ (fun e=>hn (.inr (by rw [← e];rfl))) (h4 q hq)⟩
  rcases h1 with h1 | ⟨b',off,rfl,e1,e2,e3⟩
  ·exact .inl h1
  ·exact .inr ⟨b',off,rfl,e1,by rw [World.size_setCell];exact e2,fun q y hy=>far _ _ _ (fun e=>hn (.inl (by rw [← e];rfl))) (e3 q y hy)⟩
theorem sy_do (w:World) (g:Nat) (v:Hv) (h:Hp) (hF:Framed h) (hO:Owned h) (hS:Filled h) (L0 N0:Value) (r:RdL w g v h L0 N0) :
  Calls Tryz.prog 183 #[.pointer (some ⟨g,4,none⟩),.func (.func 184) #[.pointer (some ⟨g,0,none⟩)] #[]] w fun e w'=>e=.returned (.tuple #[])∧(∃ L N,Rc w' g v h 1 0 L N∧Coll w' g h L N∧∀ q,InB L N q → InB L0 N0 q ∨ w.heap.size ≤ q)∧w.grownBy w' (some g):=by
 have hnot:∀ (x:Bool) (w:World),(Op.unary .not (.bool x)).run Tryz.prog w=.ok (.bool (!x)) w:=fun _ _=>rfl
 rcases r with ⟨_,_,r⟩ | ⟨r,c⟩
 ·have HS:=Lib.hid (sy_slow w g v h hF hO hS r)
  have c4:=r.c4
  clear r hF hO hS
  go_enter Tryz.func183,Tryz.ntmps183
  go_wp2_with fail
  go_at_call 235
  refine (sy_bload _ 0 false rfl _ c4).mono ?_
  rintro e w0 ⟨rfl,rfl⟩
  go_wp2_with fail
  go_at_call 236
  refine HS.out.mono ?_
  rintro e w2 ⟨rfl,⟨L,N,h2,h4,h5⟩,h3⟩
  clear HS
  go_wp2
  go_end0
  exact ⟨rfl,⟨L,N,h2,h4,fun q hq=>.inr (h5 q hq)⟩,h3⟩
 ·have c4:=r.c4
  go_enter Tryz.func183,Tryz.ntmps183
  go_wp2_with fail
  go_at_call 235
  refine (sy_bload _ 1 true rfl _ c4).mono ?_
  rintro e w0 ⟨rfl,rfl⟩
  go_wp2
  go_end0
  exact ⟨rfl,⟨L0,N0,r,c,fun q hq=>.inl hq⟩,grown_some g (Below.refl _ _)⟩
theorem zobjects_any (w:World) (g:Nat) (v:Hv) (h:Hp) (hF:Framed h) (hO:Owned h) (hS:Filled h) (L0 N0:Value) (r:RdL w g v h L0 N0) :
  Calls Tryz.prog 113 #[.pointer (some ⟨g,0,none⟩)] w fun e w'=>∃ L N,e=.returned L∧Rc w' g v h 1 0 L N∧Coll w' g h L N∧(∀ q,InB L N q → InB L0 N0 q ∨ w.heap.size ≤ q)∧w.grownBy w' (some g):=by
 have hmf:∀ (fn:Fn) (first cap:Array Value) (w:World),(Instr.makeFunc fn first cap).run Tryz.prog w=.ok (.func fn first cap) w:=fun _ _ _ _=>rfl
 have HD:=Lib.hid (sy_do w g v h hF hO hS L0 N0 r)
 clear r hF hO hS
 go_enter Tryz.func113,Tryz.ntmps113
 go_wp2_with fail
 go_at_call 183
 refine HD.out.mono ?_
 rintro e w2 ⟨rfl,⟨L,N,h2,h3,h5⟩,h4⟩
 have c7:=h2.c7
 clear HD
 obtain ⟨A,cl,b,rfl,rest⟩:=id h3
 go_wp2
 go_ret
 exact ⟨_,N,rfl,h2,h3,h5,h4⟩
def ob0:Ob:=⟨0,0,0,0,0,false,false⟩
def fnO (h:Hp) (a:Nat):Ob:=if hin (addrs (cursH h)) a=0 then ob0 else (cursH h).getD (hin (addrs (cursH h)) a - 1) ob0
def fnY (h:Hp) (a:Nat):Int:=if a=0 then 7 else if hin (addrs (cursH h)) a=0 then 10 else 0
theorem fnO_mem {h:Hp} {a:Nat} (hy:fnY h a=0):fnO h a ∈ cursH h∧(fnO h a).a=a:=by
 unfold fnY at hy
 split at hy
 ·cases hy
 ·split at hy
  ·cases hy
  ·rename_i h1 h2
   obtain ⟨_,e1,e2,_⟩:=hin_pos h2
   have hl:hin (addrs (cursH h)) a - 1 < (cursH h).length:=by simp only [addrs,List.length_map] at e1;unfold addrs at h2 ⊢;omega
   unfold fnO
   rw [if_neg h2,List.getD_eq_getElem?_getD,List.getElem?_eq_getElem hl]
   refine ⟨List.getElem_mem hl,?_⟩
   rw [List.getD_eq_getElem?_getD] at e2
   unfold addrs at e2 hl
   rw [List.getElem?_map,List.getElem?_eq_getElem hl] at e2
   simp only [List.length_map,Option.map_some,Option.getD_some] at e2
   exact e2
theorem grown_far {w W:World} {g j:Nat} (h:w.grownBy W (some g)) (u:Value):w.grownBy (W.setCell ⟨w.heap.size,j,none⟩ u) (some g):=
 ⟨h.os,h.tape,h.output,by rw [World.size_setCell];exact h.size,fun k hk hn=>(Below.heap_setCell _ _ _ k (by show k ≠ w.heap.size;omega)).trans (h.block k hk hn)⟩
theorem grown_far6 {w W:World} {g:Nat} (h:w.grownBy W (some g)) (u0 u1 u2 u3 u4 u5:Value):w.grownBy ((((((W.setCell ⟨w.heap.size,0,none⟩ u0).setCell ⟨w.heap.size,1,none⟩ u1).setCell ⟨w.heap.size,2,none⟩ u2).setCell ⟨w.heap.size,3,none⟩ u3).setCell ⟨w.heap.size,4,none⟩ u4).setCell ⟨w.heap.size,5,none⟩ u5) (some g):=
 grown_far (grown_far (grown_far (grown_far (grown_far (grown_far h _) _) _) _) _) _
theorem res_ob2 {fn:Func} {p u:Tmp} (h:fn.results=#[.cell p 161,.tmp u]) {tmps:Array Value} {w:World} {g:Nat} {v0 v1 v2 v3 v4 v5:Value} (hp:tmps.getD p undef=.pointer (some ⟨g,0,none⟩))
  (h0:w.cell? ⟨g,0,none⟩=some v0) (h1:w.cell? ⟨g,1,none⟩=some v1) (h2:w.cell? ⟨g,2,none⟩=some v2) (h3:w.cell? ⟨g,3,none⟩=some v3) (h4:w.cell? ⟨g,4,none⟩=some v4) (h5:w.cell? ⟨g,5,none⟩=some v5) :
  (results fn tmps).run Tryz.prog w=.ok (.tuple #[.agg #[v0,v1,v2,v3,v4,v5],tmps.getD u undef]) w:=by
 have hp2:tmps[p]?.getD undef=.pointer (some ⟨g,0,none⟩):=by rw [← hp];simp
 simp only [results,h]
 simp [go_sem,Result.andThen,h0,h1,h2,h3,h4,h5,asAddr,hp2]
set_option maxHeartbeats 2000000 in
theorem zfind_any (w:World) (g:Nat) (v:Hv) (h:Hp) (hF:Framed h) (hO:Owned h) (hS:Filled h) (L0 N0:Value) (r:RdL w g v h L0 N0) (a:Nat) (ha:a < W64) :
  Calls Tryz.prog 99 #[.pointer (some ⟨g,0,none⟩),.int .u64 (a:Nat)] w fun e w'=>e=.returned (.tuple #[obV (fnO h a),.int .i64 (fnY h a)])∧(∃ L N,RdL w' g v h L N∧∀ q,InB L N q → InB L0 N0 q ∨ w.heap.size ≤ q)∧w.grownBy w' (some g):=by
 by_cases h0:a=0
 ·subst h0
  have e1:fnY h 0=7:=rfl
  have e2:fnO h 0=ob0:=by unfold fnO;rw [hin_zero];rfl
  rw [e1,e2]
  have R:=Lib.hid r
  clear r hF hO hS
  go_enter Tryz.func99,Tryz.ntmps99
  go_wp2
  refine bodyPost_ret (res_ob2 (g:=w.heap.size) (v0:=.int .u64 0) (v1:=.int .i64 0) (v2:=.int .u64 0) (v3:=.int .i64 0) (v4:=.int .i64 0) (v5:=.bool false) rfl rfl ?_ ?_ ?_ ?_ ?_ ?_) rfl ?_
  ·simp [go_sem]
  ·simp [go_sem]
  ·simp [go_sem]
  ·simp [go_sem]
  ·simp [go_sem]
  ·simp [go_sem]
  exact ⟨rfl,⟨L0,N0,R.out.later (Below.alloc (Below.refl _ _) (Nat.le_refl _) _),fun q hq=>.inl hq⟩,grown_some g (Below.alloc (Below.refl _ _) (Nat.le_refl _) _)⟩
 ·have hw:=hF.words
  have hgl:=r.rd.lt
  have hb1:Below w.heap.size w (w.alloc (.cells #[.int .u64 0,.int .i64 0,.int .u64 0,.int .i64 0,.int .i64 0,.bool false] 161)):=Below.alloc (Below.refl _ _) (Nat.le_refl _) _
  have HO:=Lib.hid (zobjects_any _ g v h hF hO hS L0 N0 (r.later hb1))
  have d0:((a:Int) == 0)=false:=by simp;omega
  have HY0:Hid (fnY h a=if hin (addrs (cursH h)) a=0 then 10 else 0):=Lib.hid (by unfold fnY;rw [if_neg h0])
  have HX0:Hid (fnO h a=if hin (addrs (cursH h)) a=0 then ob0 else (cursH h).getD (hin (addrs (cursH h)) a - 1) ob0):=Lib.hid rfl
  have hle:=hin_le (addrs (cursH h)) a
  have hll:(addrs (cursH h)).length=(cursH h).length:=by simp [addrs]
  have hcl:=cursH_len hF.spans
  have HPO:Hid (h.ws.length ≤ a → hin (addrs (cursH h)) a=0):=Lib.hid (fun hge=>hin_miss (fun j hj e=>by
   have hm:a ∈ addrs (cursH h):=by rw [← e,List.getD_eq_getElem?_getD,List.getElem?_eq_getElem hj];exact List.getElem_mem hj
   unfold addrs at hm
   rw [List.mem_map] at hm
   obtain ⟨o,h1,h2⟩:=hm
   have:=(OkH.ob hF hO hS (cursH_mem h1).1).a1
   omega))
  have HBK:=Lib.hid fun q hq=>(r.blocks (q:=q) hq).2
  clear r hF hO hS h0
  go_enter Tryz.func99,Tryz.ntmps99
  go_wp2_with fail
  go_at_call 113
  refine HO.out.mono ?_
  rintro e w1 ⟨L1,N1,rfl,hR,hC,hNB,hg⟩
  have hgB:w.grownBy w1 (some g):=grown_trans (grown_some g hb1) hg
  have hRd:Hid (RdL w1 g v h L1 N1):=Lib.hid (.inr ⟨hR,hC⟩)
  have hIn:Hid (¬ InB L1 N1 w.heap.size):=Lib.hid (fun hq=>by
   rcases hNB _ hq with e | e
   ·exact absurd (HBK.out _ e) (Nat.lt_irrefl _)
   ·rw [World.size_alloc] at e;omega)
  have hNB2:Hid (∀ q,InB L1 N1 q → InB L0 N0 q ∨ w.heap.size ≤ q):=Lib.hid (fun q hq=>(hNB q hq).imp id (fun e=>by rw [World.size_alloc] at e;omega))
  clear hNB
  obtain ⟨A,cl,bn,rfl,hLR,rfl,hbg,hbl,hnum⟩:=hC
  have c8:=hR.c8
  have hs1:=hg.size
  have hs2:w.heap.size + 1 ≤ w1.heap.size:=by rw [World.size_alloc] at hs1;exact hs1
  have hz:∀ j,w1.cell? ⟨w.heap.size,j,none⟩=(w.alloc (.cells #[.int .u64 0,.int .i64 0,.int .u64 0,.int .i64 0,.int .i64 0,.bool false] 161)).cell? ⟨w.heap.size,j,none⟩:=fun j=>
   World.cell?_of_block (hg.block _ (by rw [World.size_alloc];simp) (by simp;omega))
  have hf:∀ j,w1.frozen? ⟨w.heap.size,j,none⟩=(w.alloc (.cells #[.int .u64 0,.int .i64 0,.int .u64 0,.int .i64 0,.int .i64 0,.bool false] 161)).frozen? ⟨w.heap.size,j,none⟩:=fun j=>
   World.frozen?_of_block (hg.block _ (by rw [World.size_alloc];simp) (by simp;omega))
  have z0:=(hz 0).trans (show _=some (Value.int .u64 0) by simp [go_sem])
  have z1:=(hz 1).trans (show _=some (Value.int .i64 0) by simp [go_sem])
  have z2:=(hz 2).trans (show _=some (Value.int .u64 0) by simp [go_sem])
  have z3:=(hz 3).trans (show _=some (Value.int .i64 0) by simp [go_sem])
  have z4:=(hz 4).trans (show _=some (Value.int .i64 0) by simp [go_sem])
  have z5:=(hz 5).trans (show _=some (Value.bool false) by simp [go_sem])
  have y0:=(hf 0).trans (show _=false by simp [go_sem])
  have y1:=(hf 1).trans (show _=false by simp [go_sem])
  have y2:=(hf 2).trans (show _=false by simp [go_sem])
  have y3:=(hf 3).trans (show _=false by simp [go_sem])
  have y4:=(hf 4).trans (show _=false by simp [go_sem])
  have y5:=(hf 5).trans (show _=false by simp [go_sem])
  clear hz hf HO hR d0 hg
  have hwr:IntKind.u64.wrap (h.ws.length:Int)=(h.ws.length:Int):=by rw [IntKind.wrap_u64];omega
  have HB:=Lib.hid hgB
  have hgl1:g < w1.heap.size:=by omega
  clear hgB hs1
  by_cases hge:h.ws.length ≤ a
  ·have d1:decide (h.ws.length ≤ a)=true:=decide_eq_true hge
   have HY:Hid (fnY h a=10∧fnO h a=ob0):=Lib.hid (by rw [HY0.out,HX0.out,if_pos (HPO.out hge),if_pos (HPO.out hge)];exact ⟨rfl,rfl⟩)
   clear hge hnum
   go_wp2
   refine bodyPost_ret (res_ob2 (g:=w.heap.size) (v0:=.int .u64 ob0.a) (v1:=.int .i64 ob0.n) (v2:=.int .u64 ob0.m) (v3:=.int .i64 ob0.i) (v4:=.int .i64 ob0.k) (v5:=.bool ob0.b) rfl rfl ?_ ?_ ?_ ?_ ?_ ?_) rfl ?_
   ·simp [go_sem,z0,ob0]
   ·simp [go_sem,z1,ob0]
   ·simp [go_sem,z2,ob0]
   ·simp [go_sem,z3,ob0]
   ·simp [go_sem,z4,ob0]
   ·simp [go_sem,z5,ob0]
   ·obtain ⟨hy,hx⟩:=HY.out
    refine ⟨by rw [hy,hx];rfl,⟨_,_,(((((hRd.out.far ?_ hIn.out _).far ?_ hIn.out _).far ?_ hIn.out _).far ?_ hIn.out _).far ?_ hIn.out _).far ?_ hIn.out _,hNB2.out⟩,grown_far6 HB.out _ _ _ _ _ _⟩ <;> omega
  ·have d1:decide (h.ws.length ≤ a)=false:=decide_eq_false hge
   have i0:(0:Int) ≤ (a:Int):=by omega
   have i1:(a:Int) < (h.ws.length:Int):=by omega
   have n1:=hnum a (by omega)
   clear hnum
   obtain ⟨X,hX⟩:∃ X,Hid (hin (addrs (cursH h)) a=X):=⟨_,rfl⟩
   rw [hX.out] at n1 hle
   by_cases hx0:X=0
   ·have HY:Hid (fnY h a=10∧fnO h a=ob0):=Lib.hid (by rw [HY0.out,HX0.out,hX.out,if_pos hx0,if_pos hx0];exact ⟨rfl,rfl⟩)
    have d2:((X:Int) == 0)=true:=by simp [hx0]
    clear hge hx0
    go_wp2
    refine bodyPost_ret (res_ob2 (g:=w.heap.size) (v0:=.int .u64 ob0.a) (v1:=.int .i64 ob0.n) (v2:=.int .u64 ob0.m) (v3:=.int .i64 ob0.i) (v4:=.int .i64 ob0.k) (v5:=.bool ob0.b) rfl rfl ?_ ?_ ?_ ?_ ?_ ?_) rfl ?_
    ·simp [go_sem,z0,ob0]
    ·simp [go_sem,z1,ob0]
    ·simp [go_sem,z2,ob0]
    ·simp [go_sem,z3,ob0]
    ·simp [go_sem,z4,ob0]
    ·simp [go_sem,z5,ob0]
    ·obtain ⟨hy,hx⟩:=HY.out
     refine ⟨by rw [hy,hx];rfl,⟨_,_,(((((hRd.out.far ?_ hIn.out _).far ?_ hIn.out _).far ?_ hIn.out _).far ?_ hIn.out _).far ?_ hIn.out _).far ?_ hIn.out _,hNB2.out⟩,grown_far6 HB.out _ _ _ _ _ _⟩ <;> omega
   ·have HY:Hid (fnY h a=0∧fnO h a=(cursH h).getD (X - 1) ob0):=Lib.hid (by rw [HY0.out,HX0.out,hX.out,if_neg hx0,if_neg hx0];exact ⟨rfl,rfl⟩)
    have d2:((X:Int) == 0)=false:=by simp;omega
    have hxl:X - 1 < (cursH h).length:=by omega
    rcases hLR with ⟨_,e0⟩ | ⟨b,off,rfl,hb1,hb2,hcs⟩
    ·omega
    obtain ⟨o,ho⟩:∃ o,Hid ((cursH h).getD (X - 1) ob0=o):=⟨_,rfl⟩
    have hcell:∀ j (hj:j < 6) (u:Value),(cells6 o)[j]?=some u → w1.cell? ⟨b,off + (X - 1) * 6 + j,none⟩=some u:=fun j hj u hu=>by
     rw [Nat.add_assoc]
     refine hcs _ u ?_
     rw [flat6_at _ _ _ hj,List.getElem?_eq_getElem hxl]
     rw [← ho.out,List.getD_eq_getElem?_getD,List.getElem?_eq_getElem hxl] at hu
     exact hu
    have q0:=hcell 0 (by omega) _ rfl
    have q1:=hcell 1 (by omega) _ rfl
    have q2:=hcell 2 (by omega) _ rfl
    have q3:=hcell 3 (by omega) _ rfl
    have q4:=hcell 4 (by omega) _ rfl
    have q5:=hcell 5 (by omega) _ rfl
    rw [Nat.add_zero] at q0
    have hwx:IntKind.i64.wrap ((X:Int) - 1)=((X - 1:Nat):Int):=by rw [IntKind.wrap_i64];omega
    obtain ⟨Y,hY⟩:∃ Y,Hid (X - 1=Y):=⟨_,rfl⟩
    rw [hY.out] at hwx hxl q0 q1 q2 q3 q4 q5
    have j0:(0:Int) ≤ (Y:Int):=by omega
    have j1:(Y:Int) < ((cursH h).length:Int):=by omega
    clear hge hx0 hcell hcs hxl hle
    go_wp2
    refine bodyPost_ret (res_ob2 (g:=w.heap.size) (v0:=.int .u64 o.a) (v1:=.int .i64 o.n) (v2:=.int .u64 o.m) (v3:=.int .i64 o.i) (v4:=.int .i64 o.k) (v5:=.bool o.b) rfl rfl ?_ ?_ ?_ ?_ ?_ ?_) rfl ?_
    ·simp [go_sem,z0]
    ·simp [go_sem,z1]
    ·simp [go_sem,z2]
    ·simp [go_sem,z3]
    ·simp [go_sem,z4]
    ·simp [go_sem,z5]
    ·obtain ⟨hy,hx⟩:=HY.out
     refine ⟨by rw [hy,hx];rw [ho.out];rfl,⟨_,_,(((((hRd.out.far ?_ hIn.out _).far ?_ hIn.out _).far ?_ hIn.out _).far ?_ hIn.out _).far ?_ hIn.out _).far ?_ hIn.out _,hNB2.out⟩,grown_far6 HB.out _ _ _ _ _ _⟩ <;> omega
def Theirs (os:List Ob) (i:Nat):Prop:=∃ o ∈ os,o.a ≤ i∧i ≤ o.a + o.n.toNat
def Heads (h:Hp):Prop:=∀ j,j < h.l.length → ∀ k,k < slN (nth h.l j) → tb (nth h.l j).aw k=true → Un (h.ws.getD (slA (nth h.l j) k) 0)∧fitsB (unN (h.ws.getD (slA (nth h.l j) k) 0)) (nth h.l j)=true
theorem word_slot {h:Hp} (hf:Framed h) (ho:Owned h) {i:Nat} (hi:i < h.ws.length) :
  (((i / 16:Nat):Int) < h.n∧(i / 16=0 ∨ tb h.us (i / 16)=false)) ∨ ∃ j k,j < h.l.length∧k < slN (nth h.l j)∧slA (nth h.l j) k ≤ i∧i < slA (nth h.l j) k + swd (nth h.l j):=by
 have hl:=hf.long
 have hp:((i / 16:Nat):Int) < h.n:=by omega
 by_cases hz:i / 16=0 ∨ tb h.us (i / 16)=false
 ·exact .inl ⟨hp,hz⟩
 ·have hu:tb h.us (i / 16)=true:=by
   rcases hb:tb h.us (i / 16) with _ | _
   ·exact absurd (.inr hb) hz
   ·rfl
  rcases (ho.used _ hp).1 hu with h0 | ⟨j,hj,h1,h2⟩
  ·exact absurd (.inl (by omega)) hz
  ·have ok:=hf.spans.at_ hj
   obtain ⟨e1,e2,e3,_⟩:=ok.swd_eq
   have e4:=ok.placed.1
   have hle:(nth h.l j).f.toNat * 16 ≤ i:=by omega
   have hlt:i - (nth h.l j).f.toNat * 16 < slN (nth h.l j) * swd (nth h.l j):=by omega
   have hk:(i - (nth h.l j).f.toNat * 16) / swd (nth h.l j) < slN (nth h.l j):=Nat.div_lt_of_lt_mul (by rw [Nat.mul_comm (swd _)];exact hlt)
   refine .inr ⟨j,_,hj,hk,?_⟩
   rw [ok.slA_nat hk]
   have d1:=Nat.div_add_mod (i - (nth h.l j).f.toNat * 16) (swd (nth h.l j))
   have d2:=Nat.mod_lt (i - (nth h.l j).f.toNat * 16) (show 0 < swd (nth h.l j) by omega)
   rw [Nat.mul_comm] at d1
   omega
theorem slot_one {h:Hp} (hf:Framed h) {j k j' k' i:Nat} (hj:j < h.l.length) (hk:k < slN (nth h.l j)) (hj':j' < h.l.length) (hk':k' < slN (nth h.l j'))
  (h1:slA (nth h.l j) k ≤ i) (h2:i < slA (nth h.l j) k + swd (nth h.l j)) (h3:slA (nth h.l j') k' ≤ i) (h4:i < slA (nth h.l j') k' + swd (nth h.l j')):j=j'∧k=k':=by
 have hjj:j=j':=by
  have a1:=(hf.spans.at_ hj).slA_in hk
  have a2:=(hf.spans.at_ hj').slA_in hk'
  have p1:=(hf.spans.at_ hj).placed.1
  have p2:=(hf.spans.at_ hj').placed.1
  have s1:=(hf.spans.at_ hj).sized.slots
  have s2:=(hf.spans.at_ hj').sized.slots
  rcases Nat.lt_trichotomy j j' with hlt | he | hgt
  ·have:=hf.spans.farther hlt hj'
   omega
  ·exact he
  ·have:=hf.spans.farther hgt hj
   omega
 subst hjj
 refine ⟨rfl,?_⟩
 rcases Nat.lt_trichotomy k k' with hlt | he | hgt
 ·have:=(hf.spans.at_ hj).slA_step hlt hk'
  omega
 ·exact he
 ·have:=(hf.spans.at_ hj).slA_step hgt hk
  omega
theorem rest_iff {h:Hp} (hf:Framed h) (ho:Owned h) (hh:Heads h) :
  ((∀ i:Nat,(i:Int) < h.n → (i=0 ∨ tb h.us i=false) → ∀ q,q < 16 → h.ws.getD (i * 16 + q) 0=0)∧∀ j,j < h.l.length → ∀ k,k < slN (nth h.l j) → ∀ q,takN h.ws (nth h.l j) k ≤ q → q < swd (nth h.l j) → h.ws.getD (slA (nth h.l j) k + q) 0=0) ↔
   ∀ i,i < h.ws.length → ¬ Theirs (obsH h) i → h.ws.getD i 0=0:=by
 have hl:=hf.long
 constructor
 ·rintro ⟨h1,h2⟩ i hi hn
  rcases word_slot hf ho hi with ⟨hp,hz⟩ | ⟨j,k,hj,hk,a1,a2⟩
  ·have:=h1 (i / 16) hp hz (i % 16) (Nat.mod_lt _ (by omega))
   rwa [show i / 16 * 16 + i % 16=i by omega] at this
  ·have:=h2 j hj k hk (i - slA (nth h.l j) k) ?_ (by omega)
   ·rwa [show slA (nth h.l j) k + (i - slA (nth h.l j) k)=i by omega] at this
   ·unfold takN
    split
    ·rename_i ha
     rcases Nat.lt_or_ge (i - slA (nth h.l j) k) ((unN (h.ws.getD (slA (nth h.l j) k) 0)).toNat + 1) with hlt | hge
     ·exact absurd ⟨_,obsL_mem hj hk ha,a1,by show i ≤ slA _ _ + (unN _).toNat;omega⟩ hn
     ·exact hge
    ·omega
 ·intro hr
  constructor
  ·intro i hi hz q hq
   refine hr _ (by omega) ?_
   rintro ⟨o,ho',b1,b2⟩
   obtain ⟨j,k,hj,hk,ha,rfl⟩:=mem_obsL ho'
   have ok:=hf.spans.at_ hj
   have hin:=ok.slA_in hk
   have hw:=ho.in_ j hj
   have hs:=ok.sized.slots
   have hfit:=szn_room (unN_bounds _).1 (unN_bounds _).2 (hh j hj k hk ha).2
   have c1:slA (nth h.l j) k ≤ i * 16 + q:=b1
   have c2:i * 16 + q ≤ slA (nth h.l j) k + (unN (h.ws.getD (slA (nth h.l j) k) 0)).toNat:=b2
   have hu:=(ho.used i hi).2 (.inr ⟨j,hj,by omega,by omega⟩)
   rcases hz with rfl | hz
   ·omega
   ·rw [hu] at hz;cases hz
  ·intro j hj k hk q hq1 hq2
   have hin:=(hf.spans.at_ hj).slA_in hk
   have hw:=ho.in_ j hj
   have hp:=(hf.spans.at_ hj).placed.1
   refine hr _ (by omega) ?_
   rintro ⟨o,ho',b1,b2⟩
   obtain ⟨j',k',hj',hk',ha,rfl⟩:=mem_obsL ho'
   have hfit:=szn_room (unN_bounds _).1 (unN_bounds _).2 (hh j' hj' k' hk' ha).2
   have c1:slA (nth h.l j') k' ≤ slA (nth h.l j) k + q:=b1
   have c2:slA (nth h.l j) k + q ≤ slA (nth h.l j') k' + (unN (h.ws.getD (slA (nth h.l j') k') 0)).toNat:=b2
   obtain ⟨rfl,rfl⟩:=slot_one hf hj hk hj' hk' (i:=slA (nth h.l j) k + q) (by omega) (by omega) c1 (by omega)
   unfold takN at hq1
   rw [if_pos ha] at hq1
   omega
structure OkD (h:Hp):Prop where
 framed:Framed h
 owned:Owned h
 heads:Heads h
 rest:∀ i,i < h.ws.length → ¬ Theirs (obsH h) i → h.ws.getD i 0=0
 linked:Linked h
theorem okD_iff (h:Hp):OkD h ↔ OkH h:=by
 constructor
 ·intro hd
  obtain ⟨r1,r2⟩:=(rest_iff hd.framed hd.owned hd.heads).2 hd.rest
  exact ⟨hd.framed,hd.owned,⟨r1,fun j hj k hk=>⟨hd.heads j hj k hk,r2 j hj k hk⟩⟩,hd.linked⟩
 ·intro hk
  have hh:Heads h:=fun j hj k hk'=>(hk.filled.sound j hj k hk').head_
  exact ⟨hk.framed,hk.owned,hh,(rest_iff hk.framed hk.owned hh).1 ⟨hk.filled.free,fun j hj k hk'=>(hk.filled.sound j hj k hk').rest⟩,hk.linked⟩
def Cur (h:Hp) (a:Nat):Prop:=∃ j k,j < h.l.length∧k < slN (nth h.l j)∧tb (curW (nth h.l j)) k=true∧slA (nth h.l j) k=a
theorem cursH_iff {h:Hp} (hl:OkL h.l) (o:Ob):o ∈ cursH h ↔ ∃ j k,j < h.l.length∧k < slN (nth h.l j)∧tb (curW (nth h.l j)) k=true∧o=obAt h.ws (nth h.l j) j k:=by
 constructor
 ·intro hm
  obtain ⟨h1,h2⟩:=cursH_mem hm
  obtain ⟨j,k,hj,hk,ha,rfl⟩:=mem_obsL h1
  exact ⟨j,k,hj,hk,h2,rfl⟩
 ·rintro ⟨j,k,hj,hk,hc,rfl⟩
  unfold cursH
  rw [List.mem_filter]
  exact ⟨obsL_mem hj hk ((hl.at_ hj).cur_sub hk hc),hc⟩
theorem mem_addrs {h:Hp} (hl:OkL h.l) (a:Nat):a ∈ addrs (cursH h) ↔ Cur h a:=by
 unfold addrs
 rw [List.mem_map]
 constructor
 ·rintro ⟨o,ho,rfl⟩
  obtain ⟨j,k,hj,hk,hc,rfl⟩:=(cursH_iff hl o).1 ho
  exact ⟨j,k,hj,hk,hc,rfl⟩
 ·rintro ⟨j,k,hj,hk,hc,rfl⟩
  exact ⟨_,(cursH_iff hl _).2 ⟨j,k,hj,hk,hc,rfl⟩,rfl⟩
theorem hin_mem (t:List Nat) (x:Nat):hin t x ≠ 0 ↔ x ≠ 0∧x ∈ t:=by
 constructor
 ·intro h
  obtain ⟨h0,e1,e2,_⟩:=hin_pos h
  have hl:hin t x - 1 < t.length:=by omega
  refine ⟨h0,?_⟩
  rw [List.getD_eq_getElem?_getD,List.getElem?_eq_getElem hl] at e2
  simp only [Option.getD_some] at e2
  rw [← e2]
  exact List.getElem_mem hl
 ·rintro ⟨h0,hm⟩ hz
  unfold hin at hz
  split at hz
  ·omega
  ·rename_i hn
   apply hn
   refine ⟨h0,?_⟩
   by_cases hlt:ixN t x < t.length
   ·exact hlt
   ·exfalso
    obtain ⟨j,hj,e⟩:=List.getElem_of_mem hm
    exact ixN_no hlt j hj (by rw [List.getD_eq_getElem?_getD,List.getElem?_eq_getElem hj];exact e)
theorem leads_iff {h:Hp} (hl:OkL h.l) (x:Nat):Leads (addrs (cursH h)) x ↔ (x=0 ∨ Cur h x):=by
 unfold Leads
 rw [hin_mem,mem_addrs hl]
 constructor
 ·rintro (h | h)
  ·exact .inl h
  ·exact .inr h.2
 ·intro h
  by_cases h0:x=0
  ·exact .inl h0
  ·rcases h with h | h
   ·exact .inl h
   ·exact .inr ⟨h0,h⟩
def RefsAt (ws:List Nat) (t:Nat → Prop) (d:Sd) (k:Nat):Prop:=∀ f:Nat,(f:Int) < unN (ws.getD (slA d k) 0) → (unM (ws.getD (slA d k) 0)).testBit f=true → ws.getD (slA d k + 1 + f) 0=0 ∨ t (ws.getD (slA d k + 1 + f) 0)
theorem linked_iff {h:Hp} (hl:OkL h.l):Linked h ↔ ∀ j k,j < h.l.length → k < slN (nth h.l j) → tb (curW (nth h.l j)) k=true → RefsAt h.ws (Cur h) (nth h.l j) k:=by
 unfold Linked
 constructor
 ·intro hk j k hj hk' hc f hf hb
  exact (leads_iff hl _).1 (hk _ ((cursH_iff hl _).2 ⟨j,k,hj,hk',hc,rfl⟩) f hf hb)
 ·intro hk o ho f hf hb
  obtain ⟨j,k,hj,hk',hc,rfl⟩:=(cursH_iff hl o).1 ho
  exact (leads_iff hl _).2 (hk j k hj hk' hc f hf hb)
theorem RefsAt.mono {ws:List Nat} {s t:Nat → Prop} {d:Sd} {k:Nat} (h:RefsAt ws s d k) (hst:∀ a,s a → t a):RefsAt ws t d k:=fun f hf hb=>(h f hf hb).imp id (hst _)
structure Pl (d d':Sd):Prop where
 f:d'.f=d.f
 p:d'.p=d.p
 z:d'.z=d.z
theorem Pl.refl (d:Sd):Pl d d:=⟨rfl,rfl,rfl⟩
theorem Pl.slA {d d':Sd} (h:Pl d d') (k:Nat):slA d' k=Go.Proofs.YtafpkaifaccehaaGreatDoor.slA d k:=by unfold Go.Proofs.YtafpkaifaccehaaGreatDoor.slA;rw [h.f,h.z]
theorem Pl.slN {d d':Sd} (h:Pl d d'):slN d'=Go.Proofs.YtafpkaifaccehaaGreatDoor.slN d:=by unfold Go.Proofs.YtafpkaifaccehaaGreatDoor.slN;rw [h.z]
theorem Pl.swd {d d':Sd} (h:Pl d d'):swd d'=Go.Proofs.YtafpkaifaccehaaGreatDoor.swd d:=by unfold Go.Proofs.YtafpkaifaccehaaGreatDoor.swd;rw [h.z,h.p]
theorem Pl.fits {d d':Sd} (h:Pl d d') (n:Int):fitsB n d'=fitsB n d:=by unfold fitsB;rw [h.z,h.p]
theorem okL_like {l l':List Sd} (h:OkL l) (e:l'.length=l.length) (hp:∀ j,j < l.length → Pl (nth l j) (nth l' j)) (h1:∀ j,j < l.length → Ok1 (nth l' j)):OkL l':=by
 refine ⟨by rw [e];exact h.1,fun i hi=>h1 i (by omega),fun i hi=>?_⟩
 have a:=hp i (by omega)
 have b:=hp (i + 1) (by omega)
 rw [a.f,a.p,b.f]
 exact h.2.2 i (by omega)
structure Like (h h':Hp):Prop where
 n:h'.n=h.n
 us:h'.us=h.us
 ws:h'.ws.length=h.ws.length
 l:h'.l.length=h.l.length
 pl:∀ j,j < h.l.length → Pl (nth h.l j) (nth h'.l j)
 ok:∀ j,j < h.l.length → Ok1 (nth h'.l j)
theorem Like.framed {h h':Hp} (L:Like h h') (hf:Framed h):Framed h':=
 ⟨by rw [L.ws];exact hf.words,by rw [L.n,L.us];exact hf.pages,okL_like hf.spans L.l L.pl L.ok,by rw [L.n];exact hf.some_,by rw [L.n,L.ws];exact hf.long⟩
theorem Like.owned {h h':Hp} (L:Like h h') (ho:Owned h):Owned h':=by
 refine ⟨fun j hj=>?_,fun i hi=>?_⟩
 ·rw [L.l] at hj
  have a:=L.pl j hj
  rw [a.f,a.p,L.n]
  exact ho.in_ j hj
 ·rw [L.us]
  rw [L.n] at hi
  rw [ho.used i hi]
  unfold Has
  constructor
  ·rintro (h1 | ⟨j,hj,h1,h2⟩)
   ·exact .inl h1
   ·have a:=L.pl j hj
    exact .inr ⟨j,by rw [L.l];exact hj,by rw [a.f];exact h1,by rw [a.f,a.p];exact h2⟩
  ·rintro (h1 | ⟨j,hj,h1,h2⟩)
   ·exact .inl h1
   ·rw [L.l] at hj
    have a:=L.pl j hj
    rw [a.f] at h1 h2
    rw [a.p] at h2
    exact .inr ⟨j,hj,h1,h2⟩
theorem free_slot {h:Hp} (hf:Framed h) (ho:Owned h) {i:Nat} (hi:(i:Int) < h.n) (hz:i=0 ∨ tb h.us i=false) {q:Nat} (hq:q < 16) {j k:Nat} (hj:j < h.l.length) (hk:k < slN (nth h.l j)) :
  ¬ (slA (nth h.l j) k ≤ i * 16 + q∧i * 16 + q < slA (nth h.l j) k + swd (nth h.l j)):=by
 rintro ⟨c1,c2⟩
 have ok:=hf.spans.at_ hj
 have hin:=ok.slA_in hk
 have hw:=ho.in_ j hj
 have hs:=ok.sized.slots
 have hu:=(ho.used i hi).2 (.inr ⟨j,hj,by omega,by omega⟩)
 rcases hz with rfl | hz
 ·omega
 ·rw [hu] at hz;cases hz
theorem OkH.like {h h':Hp} (hk:OkH h) (L:Like h h') (W:∀ x,x < h.ws.length → (∀ j k,j < h.l.length → k < slN (nth h.l j) → ¬ (slA (nth h.l j) k ≤ x∧x < slA (nth h.l j) k + swd (nth h.l j))) → h'.ws.getD x 0=h.ws.getD x 0)
  (S:∀ j k,j < h.l.length → k < slN (nth h.l j) → SlotOk h'.ws (nth h'.l j) k) (K:∀ j k,j < h.l.length → k < slN (nth h.l j) → tb (curW (nth h'.l j)) k=true → RefsAt h'.ws (Cur h') (nth h'.l j) k):OkH h':=by
 have hf':=L.framed hk.framed
 refine ⟨hf',L.owned hk.owned,⟨fun i hi hz q hq=>?_,fun j hj k hk'=>?_⟩,(linked_iff hf'.spans).2 fun j k hj hk' hc=>?_⟩
 ·rw [L.n] at hi
  rw [L.us] at hz
  have hlong:=hk.framed.long
  rw [W (i * 16 + q) (by omega) (fun j k hj hk'=>free_slot hk.framed hk.owned hi hz hq hj hk')]
  exact hk.filled.free i hi hz q hq
 ·rw [L.l] at hj
  rw [(L.pl j hj).slN] at hk'
  exact S j k hj hk'
 ·rw [L.l] at hj
  rw [(L.pl j hj).slN] at hk'
  exact K j k hj hk' hc
theorem slotOk_congr {ws ws':List Nat} {d d':Sd} {k:Nat} (p:Pl d d') (ha:tb d'.aw k=tb d.aw k) (hw:∀ x,slA d k ≤ x → x < slA d k + swd d → ws'.getD x 0=ws.getD x 0) (hsw:0 < swd d) (h:SlotOk ws d k):SlotOk ws' d' k:=by
 have e0:ws'.getD (slA d k) 0=ws.getD (slA d k) 0:=hw _ (Nat.le_refl _) (by omega)
 have et:takN ws' d' k=takN ws d k:=by unfold takN;rw [ha,p.slA,e0]
 refine ⟨fun h1=>?_,fun q h1 h2=>?_⟩
 ·rw [p.slA,e0,p.fits]
  exact h.head_ (by rw [← ha];exact h1)
 ·rw [p.slA,hw _ (by omega) (by rw [p.swd] at h2;omega)]
  exact h.rest q (by rw [← et];exact h1) (by rw [← p.swd];exact h2)
theorem refsAt_congr {ws ws':List Nat} {d d':Sd} {k:Nat} {t:Nat → Prop} (p:Pl d d') (hw:∀ x,slA d k ≤ x → x < slA d k + 1 + (unN (ws.getD (slA d k) 0)).toNat → ws'.getD x 0=ws.getD x 0) (h:RefsAt ws t d k):RefsAt ws' t d' k:=by
 have e0:ws'.getD (slA d k) 0=ws.getD (slA d k) 0:=hw _ (Nat.le_refl _) (by omega)
 intro f hf hb
 rw [p.slA,e0] at hf hb
 rw [p.slA,hw _ (by omega) (by omega)]
 exact h f hf hb
theorem nth_set (l:List Sd) (i j:Nat) (d:Sd) (hi:i < l.length):nth (l.set i d) j=if j=i then d else nth l j:=by
 unfold nth
 rw [List.getD_eq_getElem?_getD,List.getElem?_set]
 by_cases e:i=j
 ·subst e
  rw [if_pos rfl,if_pos hi,if_pos rfl]
  rfl
 ·rw [if_neg e,if_neg (fun h=>e h.symm),List.getD_eq_getElem?_getD]
structure Rdx (B:Nat) (w w':World) (g:Nat) (v:Hv) (h:Hp) (Q:Nat → Prop):Prop where
 grown:w.grownBy w' (some g)
 rd:∃ L N,RdL w' g v h L N∧∀ q,InB L N q → Q q ∨ B ≤ q
theorem Rdx.refl {B:Nat} {w:World} {g:Nat} {v:Hv} {h:Hp} {L N:Value} (r:RdL w g v h L N):Rdx B w w g v h (InB L N):=⟨grown_some g (Below.refl _ _),L,N,r,fun q hq=>.inl hq⟩
theorem Rdx.trans {B:Nat} {a b c:World} {g:Nat} {v:Hv} {h:Hp} {Q Q':Nat → Prop} (r:Rdx B a b g v h Q) (k:Rdx b.heap.size b c g v h Q') (hQ:∀ q,Q' q → Q q ∨ B ≤ q) (hB:B ≤ a.heap.size):Rdx B a c g v h Q:=by
 obtain ⟨L,N,h1,h2⟩:=k.rd
 refine ⟨grown_trans r.grown k.grown,L,N,h1,fun q hq=>?_⟩
 rcases h2 q hq with h3 | h3
 ·exact hQ q h3
 ·exact .inr (Nat.le_trans hB (Nat.le_trans r.grown.size h3))
theorem Rdx.later {B:Nat} {a b c:World} {g:Nat} {v:Hv} {h:Hp} {Q:Nat → Prop} (r:Rdx B a b g v h Q) (k:Below b.heap.size b c):Rdx B a c g v h Q:=by
 obtain ⟨L,N,h1,h2⟩:=r.rd
 exact ⟨grown_trans r.grown (grown_some g k),L,N,h1.later k,h2⟩
theorem Rdx.cell {B:Nat} {a b:World} {g:Nat} {v:Hv} {h:Hp} {Q:Nat → Prop} (r:Rdx B a b g v h Q) {k o:Nat} (hk:k ≠ g) {y:Value} (hy:a.cell? ⟨k,o,none⟩=some y):b.cell? ⟨k,o,none⟩=some y:=
 (World.cell?_of_block (r.grown.block _ (World.block_lt_of_cell? _ _ hy) (by intro e;injection e with e;exact hk e))).trans hy
def exB (h:Hp) (x:Nat):Bool:=decide (x=0 ∨ hin (addrs (cursH h)) x ≠ 0)
def PermC (q:FuncId) (p:Nat → Bool) (g:Nat) (v:Hv) (h:Hp):Prop:=∀ (w:World) (L N:Value),RdL w g v h L N → ∀ x:Nat,x < W64 →
 Calls Tryz.prog q #[.pointer (some ⟨g,0,none⟩),.int .u64 (x:Nat)] w fun e w'=>e=.returned (.bool (p x))∧Rdx w.heap.size w w' g v h (InB L N)
theorem zexists_any (g:Nat) (v:Hv) (h:Hp) (hF:Framed h) (hO:Owned h) (hS:Filled h):PermC 177 (exB h) g v h:=by
 intro w L0 N0 r a ha
 have HFd:=Lib.hid (zfind_any w g v h hF hO hS L0 N0 r a ha)
 have hy:(fnY h a=0∧exB h a=true) ∨ (fnY h a=7∧exB h a=true) ∨ (fnY h a=10∧exB h a=false):=by
  unfold fnY exB
  by_cases h0:a=0
  ·simp [h0]
  ·by_cases h1:hin (addrs (cursH h)) a=0
   ·simp [h0,h1]
   ·simp [h0,h1]
 generalize fnO h a=o at *
 generalize fnY h a=y at *
 generalize exB h a=b at *
 clear r hF hO hS
 rcases hy with ⟨rfl,rfl⟩ | ⟨rfl,rfl⟩ | ⟨rfl,rfl⟩
 all_goals
  go_enter Tryz.func177,Tryz.ntmps177
  go_wp2_with fail
  go_at_call 99
  refine HFd.out.mono ?_
  rintro e w1 ⟨rfl,⟨L1,N1,hR,hN⟩,hg⟩
  clear HFd
  unfold obV
  go_wp2
  go_ret
  exact ⟨rfl,⟨grown_trans hg (grown_some g (Below.alloc (Below.refl _ _) (Nat.le_refl _) _)),L1,N1,hR.later (Below.alloc (Below.refl _ _) (Nat.le_refl _) _),hN⟩⟩
def refsB (ws:List Nat) (p:Nat → Bool) (o:Ob) (k:Nat):Bool:=(List.range k).all fun f=>!(o.m.testBit f) || p (ws.getD (o.a + 1 + f) 0)
theorem refsB_succ (ws:List Nat) (p:Nat → Bool) (o:Ob) (k:Nat):refsB ws p o (k + 1)=(refsB ws p o k && (!(o.m.testBit k) || p (ws.getD (o.a + 1 + k) 0))):=by simp [refsB,List.range_succ]
theorem refsB_iff (ws:List Nat) (p:Nat → Bool) (o:Ob) (k:Nat):refsB ws p o k=true ↔ ∀ f,f < k → o.m.testBit f=true → p (ws.getD (o.a + 1 + f) 0)=true:=by
 unfold refsB
 rw [List.all_eq_true]
 constructor
 ·intro h f hf hb
  have:=h f (by simpa using hf)
  rw [hb] at this
  simpa using this
 ·intro h f hf
  rcases hb:o.m.testBit f with _ | _
  ·rfl
  ·have:=h f (by simpa using hf) hb
   simpa using this
theorem nx_spec (m j:Nat):∀ a,(∃ i,nx m a j=some i∧a ≤ i∧i < a + j∧m.testBit i=true∧∀ q,a ≤ q → q < i → m.testBit q=false) ∨ (nx m a j=none∧∀ q,a ≤ q → q < a + j → m.testBit q=false):=by
 induction j with
 | zero=>exact fun a=>.inr ⟨rfl,fun q h1 h2=>by omega⟩
 | succ j ih=>
  intro a
  rcases hb:m.testBit a with _ | _
  ·rw [nx_skip hb]
   have hx:∀ q,a ≤ q → ¬ a + 1 ≤ q → m.testBit q=false:=fun q h1 h2=>by
    obtain rfl:q=a:=by omega
    exact hb
   rcases ih (a + 1) with ⟨i,h1,h2,h3,h4,h5⟩ | ⟨h1,h2⟩
   ·exact .inl ⟨i,h1,by omega,by omega,h4,fun q q1 q2=>by
     by_cases hq:a + 1 ≤ q
     ·exact h5 q hq q2
     ·exact hx q q1 hq⟩
   ·exact .inr ⟨h1,fun q q1 q2=>by
     by_cases hq:a + 1 ≤ q
     ·exact h2 q hq (by omega)
     ·exact hx q q1 hq⟩
  ·rw [nx_hit hb]
   exact .inl ⟨a,rfl,Nat.le_refl _,by omega,hb,fun q h1 h2=>by omega⟩
def NextSt (ws:List Nat) (p:Nat → Bool) (o:Ob) (s y:Int):Prop:=
 (∃ k:Nat,s=(k:Int)∧y=0∧(k:Int) < o.n∧o.m.testBit k=true∧refsB ws p o k=true) ∨ (s=0∧y=3∧refsB ws p o o.n.toNat=true)
theorem nextSt_of {ws:List Nat} {p:Nat → Bool} {o:Ob} (hsh:Sh o.n o.m) {a:Nat} (ha:(a:Int) ≤ o.n) (hr:refsB ws p o a=true):NextSt ws p o (nxN o.n o.m (a:Int)) (nxY o.n o.m (a:Int)):=by
 have h0:=hsh.1
 unfold nxN nxY
 rw [if_pos ⟨hsh,by omega,ha⟩,if_pos hsh,if_pos ⟨by omega,ha⟩,Int.toNat_natCast]
 rcases nx_spec o.m (o.n - (a:Int)).toNat a with ⟨i,h1,h2,h3,h4,h5⟩ | ⟨h1,h2⟩
 ·rw [h1]
  refine .inl ⟨i,rfl,rfl,by omega,h4,?_⟩
  rw [refsB_iff] at hr ⊢
  intro f hf hb
  by_cases hfa:f < a
  ·exact hr f hfa hb
  ·rw [h5 f (by omega) hf] at hb
   cases hb
 ·rw [h1]
  refine .inr ⟨rfl,rfl,?_⟩
  rw [refsB_iff] at hr ⊢
  intro f hf hb
  by_cases hfa:f < a
  ·exact hr f hfa hb
  ·rw [h2 f (by omega) (by omega)] at hb
   cases hb
theorem nextSt_less {ws:List Nat} {p:Nat → Bool} {o:Ob} {s y:Int} {a:Nat} (h:NextSt ws p o s y) (hs:s=nxN o.n o.m (a:Int)) (hy:y=nxY o.n o.m (a:Int)) (hsh:Sh o.n o.m) (ha:(a:Int) ≤ o.n):y ≠ 0 ∨ ((a:Int) ≤ s∧s < 48):=by
 have h0:=hsh.1
 have h48:=hsh.2.1
 unfold nxN at hs
 unfold nxY at hy
 rw [if_pos ⟨hsh,by omega,ha⟩,Int.toNat_natCast] at hs
 rw [if_pos hsh,if_pos ⟨by omega,ha⟩,Int.toNat_natCast] at hy
 rcases nx_spec o.m (o.n - (a:Int)).toNat a with ⟨i,h1,h2,h3,h4,h5⟩ | ⟨h1,h2⟩
 ·rw [h1] at hs hy
  right
  simp only at hs
  omega
 ·rw [h1] at hy
  left
  simp only at hy
  omega
theorem zfield_any (w:World) (o:Ob) (f:Nat) (hf:f < 64) (ha:o.a ≤ 100000) :
  Calls Tryz.prog 103 #[obV o,.int .i64 (f:Nat)] w fun e w'=>e=.returned (.int .u64 ((o.a + 1 + f:Nat):Int))∧Below w.heap.size w w':=by
 have e1:IntKind.u64.wrap ((o.a:Int) + 1)=(o.a:Int) + 1:=by rw [IntKind.wrap_u64];omega
 have e2:IntKind.u64.wrap (f:Int)=(f:Int):=by rw [IntKind.wrap_u64];omega
 have e3:IntKind.u64.wrap ((o.a:Int) + 1 + (f:Int))=((o.a + 1 + f:Nat):Int):=by rw [IntKind.wrap_u64];omega
 obtain ⟨oi,ok,oa,on,om,ob,oc⟩:=o
 unfold obV
 simp only at e1 e3 ⊢
 go_enter Tryz.func103,Tryz.ntmps103
 go_wp2
 go_ret
 exact ⟨by first | rfl | (simp only [e1,e2,e3]),bX⟩
set_option maxHeartbeats 4000000 in
theorem zrefers_any (q:FuncId) (p:Nat → Bool) (eg:∀ args w,(callFunc q args).run Tryz.prog w=.ok (.enter q args) w) (w:World) (g:Nat) (v:Hv) (h:Hp) (hp:PermC q p g v h) (hF:Framed h) (o:Ob) (hsh:Sh o.n o.m) (hm:o.m < W64) (ha:o.a ≤ 100000)
  (L0 N0:Value) (r:RdL w g v h L0 N0) (b:Bool) (hb:refsB h.ws p o o.n.toNat=b) :
  Calls Tryz.prog 187 #[.pointer (some ⟨g,0,none⟩),obV o,.func (.func q) #[.pointer (some ⟨g,0,none⟩)] #[]] w fun e w'=>e=.returned (.bool b)∧Rdx w.heap.size w w' g v h (InB L0 N0):=by
 have hgl:=r.rd.lt
 have hsh48:=hsh.2.1
 have hsh0:=hsh.1
 have HP:=Lib.hid hp
 have HB:=Lib.hid hb
 have HSH:=Lib.hid hsh
 have HW:=Lib.hid hF.words
 have HNX:=Lib.hid fun (w:World) (a:Int)=>hnext_any (w:=w) (n:=o.n) (m:=o.m) hm a
 have HST:=Lib.hid fun (a:Nat) (h1:(a:Int) ≤ o.n) (h2:refsB h.ws p o a=true)=>nextSt_of hsh h1 h2
 have HFI:=Lib.hid fun (w:World) (f:Nat) (hf:f < 64)=>zfield_any w o f hf ha
 have HSU:=Lib.hid fun k=>refsB_succ h.ws p o k
 have HLE:=Lib.hid fun (s y:Int) (a:Nat) (h1:NextSt h.ws p o s y) (h2:s=nxN o.n o.m (a:Int)) (h3:y=nxY o.n o.m (a:Int)) (h4:(a:Int) ≤ o.n)=>nextSt_less h1 h2 h3 hsh h4
 have R0:=Lib.hid r
 clear hp hb hsh hF r
 have HNO:Hid (∀ k:Nat,(k:Int) < o.n → refsB h.ws p o (k + 1)=false → b=false):=Lib.hid (fun k hk hf=>by
  rcases hbb:b with _ | _
  ·rfl
  ·exfalso
   have h1:=HB.out
   rw [hbb,refsB_iff] at h1
   have h2:refsB h.ws p o (k + 1)=true:=(refsB_iff _ _ _ _).2 fun f hf hb=>h1 f (by omega) hb
   rw [h2] at hf
   cases hf)
 go_enter Tryz.func187,Tryz.ntmps187
 have hobl:w.heap.size < w.heap.size + 1:=Nat.lt_succ_self _
 have HWO:=Lib.hid fun (w:World) (i:Nat) (hr:Row w w.heap.size v.A h.ws) (hi:i < W64)=>zword_any (w:=w) (n:=h.n) (A:=v.A) (U:=v.U) (V:=v.V) (ws:=h.ws) v.ca v.cu v.cv h.us.length h.l.length i hr hi
 have hR1:RdL (w.alloc (.cells #[.int .u64 o.a,.int .i64 o.n,.int .u64 o.m,.int .i64 o.i,.int .i64 o.k,.bool o.b] 161)) g v h L0 N0:=R0.out.later (Below.alloc (Below.refl _ _) (Nat.le_refl _) _)
 have hX1:Rdx w.heap.size w (w.alloc (.cells #[.int .u64 o.a,.int .i64 o.n,.int .u64 o.m,.int .i64 o.i,.int .i64 o.k,.bool o.b] 161)) g v h (InB L0 N0):=(Rdx.refl R0.out).later (Below.alloc (Below.refl _ _) (Nat.le_refl _) _)
 have HX1:=Lib.hid hX1
 clear hR1 hX1 R0
 unfold obV at HFI ⊢
 unfold hpv at HWO
 go_wp2_with fail
 go_at_call 240
 refine (HNX.out _ 0).mono ?_
 rintro e w1 ⟨rfl,hb_w1⟩
 obtain ⟨hc_w1,hf_w1⟩:=bcell hb_w1;have hz_w1_w_0:w.heap.size < w1.heap.size:=lY hb_w1.size;have hs_w1:=hb_w1.size;(try simp only [zZ] at hs_w1)
 have c0:=(hc_w1 w.heap.size 0 lX).trans (show (w.alloc (.cells #[.int .u64 o.a,.int .i64 o.n,.int .u64 o.m,.int .i64 o.i,.int .i64 o.k,.bool o.b] 161)).cell? ⟨w.heap.size,0,none⟩=some (.int .u64 o.a) by simp [go_sem])
 have c1:=(hc_w1 w.heap.size 1 lX).trans (show (w.alloc (.cells #[.int .u64 o.a,.int .i64 o.n,.int .u64 o.m,.int .i64 o.i,.int .i64 o.k,.bool o.b] 161)).cell? ⟨w.heap.size,1,none⟩=some (.int .i64 o.n) by simp [go_sem])
 have c2:=(hc_w1 w.heap.size 2 lX).trans (show (w.alloc (.cells #[.int .u64 o.a,.int .i64 o.n,.int .u64 o.m,.int .i64 o.i,.int .i64 o.k,.bool o.b] 161)).cell? ⟨w.heap.size,2,none⟩=some (.int .u64 o.m) by simp [go_sem])
 have c3:=(hc_w1 w.heap.size 3 lX).trans (show (w.alloc (.cells #[.int .u64 o.a,.int .i64 o.n,.int .u64 o.m,.int .i64 o.i,.int .i64 o.k,.bool o.b] 161)).cell? ⟨w.heap.size,3,none⟩=some (.int .i64 o.i) by simp [go_sem])
 have c4:=(hc_w1 w.heap.size 4 lX).trans (show (w.alloc (.cells #[.int .u64 o.a,.int .i64 o.n,.int .u64 o.m,.int .i64 o.i,.int .i64 o.k,.bool o.b] 161)).cell? ⟨w.heap.size,4,none⟩=some (.int .i64 o.k) by simp [go_sem])
 have c5:=(hc_w1 w.heap.size 5 lX).trans (show (w.alloc (.cells #[.int .u64 o.a,.int .i64 o.n,.int .u64 o.m,.int .i64 o.i,.int .i64 o.k,.bool o.b] 161)).cell? ⟨w.heap.size,5,none⟩=some (.bool o.b) by simp [go_sem])
 have hX2:Rdx w.heap.size w w1 g v h (InB L0 N0):=HX1.out.later (hb_w1.mono lX)
 have hS0:Hid (NextSt h.ws p o (nxN o.n o.m 0) (nxY o.n o.m 0)):=Lib.hid (HST.out 0 (by omega) ((refsB_iff _ _ _ _).2 fun f hf=>by omega))
 generalize nxN o.n o.m 0=s0 at *
 generalize nxY o.n o.m 0=y0 at *
 clear hc_w1 hf_w1 hb_w1 HX1
 go_wp2_with fail
 go_loopw [7,8] (fun sv yv wr=>∃ (s y:Int),sv=.int .i64 s∧yv=.int .i64 y∧Hid (NextSt h.ws p o s y) ∧
  (wr.cell? ⟨w.heap.size,0,none⟩=some (.int .u64 o.a)∧wr.cell? ⟨w.heap.size,1,none⟩=some (.int .i64 o.n)∧wr.cell? ⟨w.heap.size,2,none⟩=some (.int .u64 o.m)∧wr.cell? ⟨w.heap.size,3,none⟩=some (.int .i64 o.i)∧wr.cell? ⟨w.heap.size,4,none⟩=some (.int .i64 o.k)∧wr.cell? ⟨w.heap.size,5,none⟩=some (.bool o.b))∧Rdx w.heap.size w wr g v h (InB L0 N0)) (fun sv yv _=>if intOf yv=0 then 100 - (intOf sv).toNat else 0)
 case atStart=>exact ⟨s0,y0,rfl,rfl,hS0,⟨c0,c1,c2,c3,c4,c5⟩,hX2⟩
 case round=>
  clear hS0 c0 c1 c2 c3 c4 c5 hX2
  obtain ⟨s,y,rfl,rfl,hS,⟨c0,c1,c2,c3,c4,c5⟩,hX⟩:=hrel
  have hBl:w.heap.size < wr.heap.size:=World.block_lt_of_cell? wr _ c0
  rcases hS.out with ⟨k,rfl,rfl,hkn,hbit,hpre⟩ | ⟨rfl,rfl,hall⟩
  ·obtain ⟨L,N,hR,hq⟩:=hX.rd
   obtain ⟨m0,m1,m2,m3⟩:=id hR.rd.hb
   have hMa:=hR.rd.mem.a
   have hgr:g < wr.heap.size:=hR.rd.lt
   obtain ⟨x,hx⟩:∃ x,Hid (h.ws.getD (o.a + 1 + k) 0=x):=⟨_,rfl⟩
   have hxl:x < W64:=by rw [← hx.out];exact hMa.words.at_ _
   have HWk:=Lib.hid fun (w:World) hr=>HWO.out w (o.a + 1 + k) hr (by unfold W64;omega)
   rw [gotA_eq HW.out,hx.out] at HWk
   have HFk:=Lib.hid fun (w:World)=>HFI.out w k (by omega)
   have HSk:=Lib.hid (HSU.out k)
   rw [hpre,hbit,hx.out] at HSk
   have HPk:=Lib.hid fun (w:World) (hr:RdL w g v h L N)=>HP.out w L N hr x hxl
   have HRr:=Lib.hid hR
   have HXr:=Lib.hid hX
   have HMa:=Lib.hid hMa
   have HQ:=Lib.hid hq
   obtain ⟨t,ht⟩:∃ t:Nat,Hid (o.a + 1 + k=t):=⟨_,rfl⟩
   rw [ht.out] at HFk HWk
   rcases hpx:p x with _ | _
   ·rw [hpx] at HSk HPk
    obtain rfl:b=false:=HNO.out k hkn (by rw [HSk.out];rfl)
    clear hbit hpre hX hR hMa hpx hq
    go_wp2_with fail
    go_region_held3 (fun X:World=>X.cell? ⟨w.heap.size,0,none⟩=some (.int .u64 o.a)∧X.cell? ⟨w.heap.size,1,none⟩=some (.int .i64 o.n)∧X.cell? ⟨w.heap.size,2,none⟩=some (.int .u64 o.m)∧X.cell? ⟨w.heap.size,3,none⟩=some (.int .i64 o.i)∧X.cell? ⟨w.heap.size,4,none⟩=some (.int .i64 o.k)∧X.cell? ⟨w.heap.size,5,none⟩=some (.bool o.b)∧X.cell? ⟨g,0,none⟩=some (.slice v.A h.ws.length v.ca)∧X.cell? ⟨g,1,none⟩=some (.int .i64 h.n)∧X.cell? ⟨g,2,none⟩=some (.slice v.U h.us.length v.cu)∧X.cell? ⟨g,3,none⟩=some (.slice v.V h.l.length v.cv))
     ((refine ⟨?_,?_,?_,?_,?_,?_,?_,?_,?_,?_⟩ <;> first | assumption | (simp [go_sem];done)))
     ((first
      | (go_at_call 103;refine (HFk.out _).mono ?_;rintro e w3 ⟨rfl,hb_w3⟩;have hs_w3:wr.heap.size ≤ w3.heap.size:=hb_w3.size;have b_w3:Below wr.heap.size wr w3:=bX;have w3c0:w3.cell? ⟨w.heap.size,0,none⟩=some (.int .u64 o.a):=(hb_w3.cell lX).trans c0;have w3c1:w3.cell? ⟨w.heap.size,1,none⟩=some (.int .i64 o.n):=(hb_w3.cell lX).trans c1;have w3c2:w3.cell? ⟨w.heap.size,2,none⟩=some (.int .u64 o.m):=(hb_w3.cell lX).trans c2;have w3c3:w3.cell? ⟨w.heap.size,3,none⟩=some (.int .i64 o.i):=(hb_w3.cell lX).trans c3;have w3c4:w3.cell? ⟨w.heap.size,4,none⟩=some (.int .i64 o.k):=(hb_w3.cell lX).trans c4;have w3c5:w3.cell? ⟨w.heap.size,5,none⟩=some (.bool o.b):=(hb_w3.cell lX).trans c5;have w3m0:w3.cell? ⟨g,0,none⟩=some (.slice v.A h.ws.length v.ca):=(hb_w3.cell lX).trans m0;have w3m1:w3.cell? ⟨g,1,none⟩=some (.int .i64 h.n):=(hb_w3.cell lX).trans m1;have w3m2:w3.cell? ⟨g,2,none⟩=some (.slice v.U h.us.length v.cu):=(hb_w3.cell lX).trans m2;have w3m3:w3.cell? ⟨g,3,none⟩=some (.slice v.V h.l.length v.cv):=(hb_w3.cell lX).trans m3)
      | (go_at_call 102;refine (HWk.out _ ((HMa.out.more (by omega)).later b_w3)).mono ?_;rintro e w4 ⟨rfl,hb_w4⟩;have hs_w4:w3.heap.size ≤ w4.heap.size:=hb_w4.size;have b_w4:Below wr.heap.size wr w4:=bX;have w4c0:w4.cell? ⟨w.heap.size,0,none⟩=some (.int .u64 o.a):=(hb_w4.cell lX).trans w3c0;have w4c1:w4.cell? ⟨w.heap.size,1,none⟩=some (.int .i64 o.n):=(hb_w4.cell lX).trans w3c1;have w4c2:w4.cell? ⟨w.heap.size,2,none⟩=some (.int .u64 o.m):=(hb_w4.cell lX).trans w3c2;have w4c3:w4.cell? ⟨w.heap.size,3,none⟩=some (.int .i64 o.i):=(hb_w4.cell lX).trans w3c3;have w4c4:w4.cell? ⟨w.heap.size,4,none⟩=some (.int .i64 o.k):=(hb_w4.cell lX).trans w3c4;have w4c5:w4.cell? ⟨w.heap.size,5,none⟩=some (.bool o.b):=(hb_w4.cell lX).trans w3c5;have w4m0:w4.cell? ⟨g,0,none⟩=some (.slice v.A h.ws.length v.ca):=(hb_w4.cell lX).trans w3m0;have w4m1:w4.cell? ⟨g,1,none⟩=some (.int .i64 h.n):=(hb_w4.cell lX).trans w3m1;have w4m2:w4.cell? ⟨g,2,none⟩=some (.slice v.U h.us.length v.cu):=(hb_w4.cell lX).trans w3m2;have w4m3:w4.cell? ⟨g,3,none⟩=some (.slice v.V h.l.length v.cv):=(hb_w4.cell lX).trans w3m3)
      | (refine (HPk.out _ (HRr.out.later b_w4)).mono ?_;rintro e w5 ⟨rfl,hX5⟩;have hX6:=(HXr.out.later b_w4).trans hX5 HQ.out (Nat.le_refl _);obtain ⟨L5,N5,hR5,hq5⟩:=hX6.rd;obtain ⟨w5m0,w5m1,w5m2,w5m3⟩:=id hR5.rd.hb;have w5c0:=hX5.cell (k:=w.heap.size) (by omega) w4c0;have w5c1:=hX5.cell (k:=w.heap.size) (by omega) w4c1;have w5c2:=hX5.cell (k:=w.heap.size) (by omega) w4c2;have w5c3:=hX5.cell (k:=w.heap.size) (by omega) w4c3;have w5c4:=hX5.cell (k:=w.heap.size) (by omega) w4c4;have w5c5:=hX5.cell (k:=w.heap.size) (by omega) w4c5)))
    all_goals
     go_wp2
     go_ret
     exact ⟨rfl,hX6.later bX⟩
   ·rw [hpx] at HSk HPk
    have HT1:Hid (refsB h.ws p o (k + 1)=true):=Lib.hid (by rw [HSk.out];rfl)
    clear hbit hpre hX hR hMa hpx hq HSk
    go_wp2_with fail
    go_region_held3 (fun X:World=>X.cell? ⟨w.heap.size,0,none⟩=some (.int .u64 o.a)∧X.cell? ⟨w.heap.size,1,none⟩=some (.int .i64 o.n)∧X.cell? ⟨w.heap.size,2,none⟩=some (.int .u64 o.m)∧X.cell? ⟨w.heap.size,3,none⟩=some (.int .i64 o.i)∧X.cell? ⟨w.heap.size,4,none⟩=some (.int .i64 o.k)∧X.cell? ⟨w.heap.size,5,none⟩=some (.bool o.b)∧X.cell? ⟨g,0,none⟩=some (.slice v.A h.ws.length v.ca)∧X.cell? ⟨g,1,none⟩=some (.int .i64 h.n)∧X.cell? ⟨g,2,none⟩=some (.slice v.U h.us.length v.cu)∧X.cell? ⟨g,3,none⟩=some (.slice v.V h.l.length v.cv))
     ((refine ⟨?_,?_,?_,?_,?_,?_,?_,?_,?_,?_⟩ <;> first | assumption | (simp [go_sem];done)))
     ((first
      | (go_at_call 103;refine (HFk.out _).mono ?_;rintro e w3 ⟨rfl,hb_w3⟩;have hs_w3:wr.heap.size ≤ w3.heap.size:=hb_w3.size;have b_w3:Below wr.heap.size wr w3:=bX;have w3c0:w3.cell? ⟨w.heap.size,0,none⟩=some (.int .u64 o.a):=(hb_w3.cell lX).trans c0;have w3c1:w3.cell? ⟨w.heap.size,1,none⟩=some (.int .i64 o.n):=(hb_w3.cell lX).trans c1;have w3c2:w3.cell? ⟨w.heap.size,2,none⟩=some (.int .u64 o.m):=(hb_w3.cell lX).trans c2;have w3c3:w3.cell? ⟨w.heap.size,3,none⟩=some (.int .i64 o.i):=(hb_w3.cell lX).trans c3;have w3c4:w3.cell? ⟨w.heap.size,4,none⟩=some (.int .i64 o.k):=(hb_w3.cell lX).trans c4;have w3c5:w3.cell? ⟨w.heap.size,5,none⟩=some (.bool o.b):=(hb_w3.cell lX).trans c5;have w3m0:w3.cell? ⟨g,0,none⟩=some (.slice v.A h.ws.length v.ca):=(hb_w3.cell lX).trans m0;have w3m1:w3.cell? ⟨g,1,none⟩=some (.int .i64 h.n):=(hb_w3.cell lX).trans m1;have w3m2:w3.cell? ⟨g,2,none⟩=some (.slice v.U h.us.length v.cu):=(hb_w3.cell lX).trans m2;have w3m3:w3.cell? ⟨g,3,none⟩=some (.slice v.V h.l.length v.cv):=(hb_w3.cell lX).trans m3)
      | (go_at_call 102;refine (HWk.out _ ((HMa.out.more (by omega)).later b_w3)).mono ?_;rintro e w4 ⟨rfl,hb_w4⟩;have hs_w4:w3.heap.size ≤ w4.heap.size:=hb_w4.size;have b_w4:Below wr.heap.size wr w4:=bX;have w4c0:w4.cell? ⟨w.heap.size,0,none⟩=some (.int .u64 o.a):=(hb_w4.cell lX).trans w3c0;have w4c1:w4.cell? ⟨w.heap.size,1,none⟩=some (.int .i64 o.n):=(hb_w4.cell lX).trans w3c1;have w4c2:w4.cell? ⟨w.heap.size,2,none⟩=some (.int .u64 o.m):=(hb_w4.cell lX).trans w3c2;have w4c3:w4.cell? ⟨w.heap.size,3,none⟩=some (.int .i64 o.i):=(hb_w4.cell lX).trans w3c3;have w4c4:w4.cell? ⟨w.heap.size,4,none⟩=some (.int .i64 o.k):=(hb_w4.cell lX).trans w3c4;have w4c5:w4.cell? ⟨w.heap.size,5,none⟩=some (.bool o.b):=(hb_w4.cell lX).trans w3c5;have w4m0:w4.cell? ⟨g,0,none⟩=some (.slice v.A h.ws.length v.ca):=(hb_w4.cell lX).trans w3m0;have w4m1:w4.cell? ⟨g,1,none⟩=some (.int .i64 h.n):=(hb_w4.cell lX).trans w3m1;have w4m2:w4.cell? ⟨g,2,none⟩=some (.slice v.U h.us.length v.cu):=(hb_w4.cell lX).trans w3m2;have w4m3:w4.cell? ⟨g,3,none⟩=some (.slice v.V h.l.length v.cv):=(hb_w4.cell lX).trans w3m3)
      | (refine (HPk.out _ (HRr.out.later b_w4)).mono ?_;rintro e w5 ⟨rfl,hX5⟩;have hX6:=(HXr.out.later b_w4).trans hX5 HQ.out (Nat.le_refl _);obtain ⟨L5,N5,hR5,hq5⟩:=hX6.rd;obtain ⟨w5m0,w5m1,w5m2,w5m3⟩:=id hR5.rd.hb;have w5c0:=hX5.cell (k:=w.heap.size) (by omega) w4c0;have w5c1:=hX5.cell (k:=w.heap.size) (by omega) w4c1;have w5c2:=hX5.cell (k:=w.heap.size) (by omega) w4c2;have w5c3:=hX5.cell (k:=w.heap.size) (by omega) w4c3;have w5c4:=hX5.cell (k:=w.heap.size) (by omega) w4c4;have w5c5:=hX5.cell (k:=w.heap.size) (by omega) w4c5)))
    all_goals
     have hw1:IntKind.i64.wrap ((k:Int) + 1)=((k + 1:Nat):Int):=by rw [IntKind.wrap_i64];omega
     have HW1:=Lib.hid hw1
     clear hw1
     go_wp2_with fail
     try simp only [HW1.out]
     go_at_call 240
     refine (HNX.out _ ((k + 1:Nat):Int)).mono ?_
     rintro e w6 ⟨rfl,hb_w6⟩
     have hX7:=hX6.later hb_w6
     have hS1:=Lib.hid (HST.out (k + 1) (by omega) HT1.out)
     have hLs:=Lib.hid (HLE.out _ _ (k + 1) hS1.out rfl rfl (by omega))
     generalize nxN o.n o.m ((k + 1:Nat):Int)=s1 at *
     generalize nxY o.n o.m ((k + 1:Nat):Int)=y1 at *
     have hl5:=World.block_lt_of_cell? w5 _ w5c0
     have d0:w6.cell? ⟨w.heap.size,0,none⟩=some (.int .u64 o.a):=(hb_w6.cell (p:=⟨w.heap.size,0,none⟩) hl5).trans w5c0
     have d1:w6.cell? ⟨w.heap.size,1,none⟩=some (.int .i64 o.n):=(hb_w6.cell (p:=⟨w.heap.size,1,none⟩) hl5).trans w5c1
     have d2:w6.cell? ⟨w.heap.size,2,none⟩=some (.int .u64 o.m):=(hb_w6.cell (p:=⟨w.heap.size,2,none⟩) hl5).trans w5c2
     have d3:w6.cell? ⟨w.heap.size,3,none⟩=some (.int .i64 o.i):=(hb_w6.cell (p:=⟨w.heap.size,3,none⟩) hl5).trans w5c3
     have d4:w6.cell? ⟨w.heap.size,4,none⟩=some (.int .i64 o.k):=(hb_w6.cell (p:=⟨w.heap.size,4,none⟩) hl5).trans w5c4
     have d5:w6.cell? ⟨w.heap.size,5,none⟩=some (.bool o.b):=(hb_w6.cell (p:=⟨w.heap.size,5,none⟩) hl5).trans w5c5
     go_wp2
     go_roundw
     case rel=>exact ⟨s1,y1,rfl,rfl,hS1,⟨d0,d1,d2,d3,d4,d5⟩,hX7⟩
     case measure=>
      have hl:=hLs.out
      by_cases hy:y1=0
      ·subst hy
       simp [intOf]
       omega
      ·simp [intOf,hy]
       omega
  ·obtain rfl:b=true:=by rw [← HB.out];exact hall
   clear hall
   go_wp2
   go_ret
   exact ⟨rfl,hX⟩
end Go.Proofs.YtafpkaifaccehaaGreatDoor
namespace Go.Proofs.YtafpkaifaccehaaGreatDoor
open Go.RowKit Go.Shelf
attribute [local go_sem] Oper.semAt_some
theorem RdL.kept {w w':World} {g:Nat} {v:Hv} {h:Hp} {L N:Value} (r:RdL w g v h L N) {row:Option Nat} (hg:w.grownBy w' row) (hr:∀ q,row=some q → ∃ o:Obj,w.heap[q]?=some o∧o.isCells=false):RdL w' g v h L N:=by
 rcases r with ⟨e1,e2,r⟩ | ⟨r,c⟩
 ·exact .inl ⟨e1,e2,r.kept hg hr⟩
 ·exact .inr ⟨r.kept hg hr,c.kc ⟨hg.size,fun a v _ hv=>cell_kept hv hg hr⟩⟩
def LinkR (w:World) (g:Nat) (v:Hv) (h:Hp) (Q:Nat → Prop) (W:World):Prop:=(∃ L N,RdL W g v h L N∧∀ q,InB L N q → Q q ∨ w.heap.size + 4 ≤ q)∧w.grownBy W (some g)∧w.heap.size + 4 ≤ W.heap.size
theorem LinkR.own {w:World} {g:Nat} {v:Hv} {h:Hp} {Q:Nat → Prop} {B:Nat} (hB:w.heap.size ≤ B):OwnFrom B (fun (_:Unit) W=>LinkR w g v h Q W):=by
 rintro _ W W' row ⟨⟨L,N,h1,h2⟩,h3,h4⟩ hg hr
 refine ⟨⟨L,N,h1.kept hg fun q e=>(hr q e).2,h2⟩,?_,Nat.le_trans h4 hg.size⟩
 exact ⟨hg.os.trans h3.os,hg.tape.trans h3.tape,hg.output.trans h3.output,Nat.le_trans h3.size hg.size,fun k hk hn=>(hg.block k (Nat.lt_of_lt_of_le hk h3.size) (fun e=>by have:=(hr k e.symm).1;omega)).trans (h3.block k hk hn)⟩
theorem LinkR.rdx {w W:World} {g:Nat} {v:Hv} {h:Hp} {Q:Nat → Prop} (l:LinkR w g v h Q W):Rdx w.heap.size w W g v h Q:=by
 obtain ⟨⟨L,N,h1,h2⟩,h3,h4⟩:=l
 exact ⟨h3,L,N,h1,fun q hq=>(h2 q hq).imp id fun h=>by omega⟩
theorem LinkR.step {w W W':World} {g:Nat} {v:Hv} {h:Hp} {Q:Nat → Prop} (l:LinkR w g v h Q W) {L N:Value} (hq:∀ q,InB L N q → Q q ∨ w.heap.size + 4 ≤ q) (r:Rdx W.heap.size W W' g v h (InB L N)):LinkR w g v h Q W':=by
 obtain ⟨_,h3,h4⟩:=l
 obtain ⟨L',N',h5,h6⟩:=r.rd
 refine ⟨⟨L',N',h5,fun q hq'=>?_⟩,grown_trans h3 r.grown,Nat.le_trans h4 r.grown.size⟩
 rcases h6 q hq' with h7 | h7
 ·exact hq q h7
 ·exact .inr (Nat.le_trans h4 h7)
theorem LinkR.set {w W:World} {g j:Nat} {v:Hv} {h:Hp} {Q:Nat → Prop} (l:LinkR w g v h Q W) {b:Nat} (hb:w.heap.size ≤ b) (hb4:b < w.heap.size + 4) (hQ:∀ q,Q q → q < w.heap.size) (hg:g < w.heap.size) (u:Value):LinkR w g v h Q (W.setCell ⟨b,j,none⟩ u):=by
 obtain ⟨⟨L,N,h1,h2⟩,h3,h4⟩:=l
 refine ⟨⟨L,N,h1.far (by omega) (fun hq=>?_) u,h2⟩,?_,by rw [World.size_setCell];exact h4⟩
 ·rcases h2 b hq with h5 | h5
  ·have:=hQ b h5;omega
  ·omega
 ·exact ⟨h3.os,h3.tape,h3.output,by rw [World.size_setCell];exact h3.size,fun k hk hn=>(Below.heap_setCell _ _ _ k (by show k ≠ b;omega)).trans (h3.block k hk hn)⟩
def goodR (h:Hp) (o:Ob):Bool:=refsB h.ws (exB h) o o.n.toNat
def LinkI (w:World) (g:Nat) (v:Hv) (h:Hp) (Q:Nat → Prop) (pre:List (CurO h)) (W:World):Prop:=
 LinkR w g v h Q W∧(W.cell? ⟨w.heap.size,0,none⟩=some (.pointer (some ⟨g,0,none⟩))∧W.cell? ⟨w.heap.size + 1,0,none⟩=some (.bool false)∧W.frozen? ⟨w.heap.size + 1,0,none⟩=false∧W.cell? ⟨w.heap.size + 2,0,none⟩=some (.func (.func 177) #[.pointer (some ⟨g,0,none⟩)] #[]))∧∀ y ∈ pre,goodR h y.1=true
theorem LinkI_own {w:World} {g:Nat} {v:Hv} {h:Hp} {Q:Nat → Prop} {B:Nat} (hB:w.heap.size ≤ B):OwnFrom B (LinkI w g v h Q):=by
 rintro pre W W' row ⟨h1,⟨h2,h3,h4,h5⟩,h6⟩ hg hr
 have hr2:=fun q e=>(hr q e).2
 exact ⟨LinkR.own hB () W W' row h1 hg hr,⟨cell_kept h2 hg hr2,cell_kept h3 hg hr2,(frozen_kept h3 hg hr2).trans h4,cell_kept h5 hg hr2⟩,h6⟩
def LinkIx (w:World) (g:Nat) (v:Hv) (h:Hp) (Q:Nat → Prop) (c:Code) (pre:List (CurO h)) (W:World):Prop:=
 c=.ret∧LinkR w g v h Q W∧W.cell? ⟨w.heap.size + 1,0,none⟩=some (.bool false)∧∃ y ∈ pre,goodR h y.1=false
theorem LinkIx_own {w:World} {g:Nat} {v:Hv} {h:Hp} {Q:Nat → Prop} {B:Nat} (hB:w.heap.size ≤ B) (c:Code):OwnFrom B (LinkIx w g v h Q c):=by
 rintro pre W W' row ⟨h1,h2,h3,h4⟩ hg hr
 exact ⟨h1,LinkR.own hB () W W' row h2 hg hr,cell_kept h3 hg (fun q e=>(hr q e).2),h4⟩
set_option maxHeartbeats 8000000 in
theorem zlinked_any (w:World) (g:Nat) (v:Hv) (h:Hp) (hF:Framed h) (hO:Owned h) (hS:Filled h) (L0 N0:Value) (r:RdL w g v h L0 N0) (b:Bool) (hb:(cursH h).all (goodR h)=b) :
  Calls Tryz.prog 154 #[.pointer (some ⟨g,0,none⟩)] w fun e w'=>e=.returned (.bool b)∧Rdx w.heap.size w w' g v h (InB L0 N0):=by
 have hgl:=r.rd.lt
 have hw:=hF.words
 have hok:=hF.spans
 have hmf:∀ (fn:Fn) (first cap:Array Value) (w:World),(Instr.makeFunc fn first cap).run Tryz.prog w=.ok (.func fn first cap) w:=fun _ _ _ _=>rfl
 have HCUR:=Lib.hid fun (w:World)=>zcurrent_any v h w
 have HOB:=Lib.hid fun (o:Ob) (ho:o ∈ cursH h)=>OkH.ob hF hO hS (cursH_mem ho).1
 have hp:=zexists_any g v h hF hO hS
 have HRE:=Lib.hid fun (w:World) (o:Ob) hsh hm ha (L0 N0:Value) (r:RdL w g v h L0 N0) (b:Bool) hb=>zrefers_any 177 (exB h) (enters_of Tryz.func177 (by kernel_rfl) rfl) w g v h hp hF o hsh hm ha L0 N0 r b hb
 have HQ:=Lib.hid fun q (hq:InB L0 N0 q)=>(r.blocks hq).2
 have RR:=Lib.hid r
 obtain ⟨b0,b1,b2,b3⟩:=id r.rd.hb
 have HBB:=Lib.hid hb
 unfold hpV hpv at HCUR
 clear hp hb r
 refine (callsIn_wide (n:=3)).1 ?_
 have hst:∀ W:World,(store ⟨W.heap.size,0,none⟩ (.func (.func 177) #[.pointer (some ⟨g,0,none⟩)] #[])).run Tryz.prog (W.alloc (.cells #[.nilFunc] 234))=.ok () (W.alloc (.cells #[.func (.func 177) #[.pointer (some ⟨g,0,none⟩)] #[]] 234)):=fun W=>by
  rw [run_store Tryz.prog _ _ _ _ rfl]
  simp [go_sem]
 have hst2:=hst ((w.alloc (.cells #[.pointer (some ⟨g,0,none⟩)] 108)).alloc (.cells #[.bool false] 4))
 simp only [zA] at hst2
 clear hst
 have hbA:Below w.heap.size w (((w.alloc (.cells #[.pointer (some ⟨g,0,none⟩)] 108)).alloc (.cells #[.bool false] 4)).alloc (.cells #[.func (.func 177) #[.pointer (some ⟨g,0,none⟩)] #[]] 234)):=bX
 have e0:=(hbA.cell (p:=⟨g,0,none⟩) hgl).trans b0
 have e1:=(hbA.cell (p:=⟨g,1,none⟩) hgl).trans b1
 have e2:=(hbA.cell (p:=⟨g,2,none⟩) hgl).trans b2
 have e3:=(hbA.cell (p:=⟨g,3,none⟩) hgl).trans b3
 refine callsIn_of_wp_marks Tryz.func154 rfl trivial ?_ rfl
 simp only [Tryz.ntmps154,List.size_toArray,List.length_cons,List.length_nil,Nat.reduceAdd,Nat.reduceSub,Array.replicate_succ,Array.replicate_zero,List.push_toArray,List.append_toArray,List.nil_append,List.cons_append]
 gi_wp2_with fail
 refine ⟨trivial,?_⟩
 gi_at_call 186
 refine (callsIn_wide.2 (HCUR.out _)).mono ?_
 rintro e W0 ⟨rfl,hW0⟩
 have hsA:(((w.alloc (.cells #[.pointer (some ⟨g,0,none⟩)] 108)).alloc (.cells #[.bool false] 4)).alloc (.cells #[.func (.func 177) #[.pointer (some ⟨g,0,none⟩)] #[]] 234)).heap.size=w.heap.size + 3:=by simp [World.size_alloc]
 have hs0:W0.heap.size=w.heap.size + 4:=by rw [hW0,World.size_alloc,hsA]
 have hb0:Below w.heap.size w W0:=by rw [hW0];exact hbA.alloc lX _
 have q1:W0.cell? ⟨w.heap.size,0,none⟩=some (.pointer (some ⟨g,0,none⟩)):=by rw [hW0];simp [go_sem]
 have q2:W0.cell? ⟨w.heap.size + 1,0,none⟩=some (.bool false):=by rw [hW0];simp [go_sem]
 have f2:W0.frozen? ⟨w.heap.size + 1,0,none⟩=false:=by rw [hW0];simp [go_sem]
 have q3:W0.cell? ⟨w.heap.size + 2,0,none⟩=some (.func (.func 177) #[.pointer (some ⟨g,0,none⟩)] #[]):=by rw [hW0];simp [go_sem]
 have hC0:W0.heap[w.heap.size + 3]?=some (.cells #[.slice v.A h.ws.length v.ca,.int .i64 h.n,.slice v.U h.us.length v.cu,.slice v.V h.l.length v.cv] 112 (0,0)):=by
  rw [hW0,← hsA]
  exact heap_alloc_new _ _
 have hI0:LinkI w g v h (InB L0 N0) [] W0:=⟨⟨⟨L0,N0,RR.out.later hb0,fun q hq=>.inl hq⟩,grown_some g hb0,Nat.le_of_eq hs0.symm⟩,⟨q1,q2,f2,q3⟩,fun y hy=>(by cases hy)⟩
 have hM0:=(RR.out.later hb0).rd.mem
 have hsR:=hsA
 simp only [zA] at hsR
 clear hW0 b0 b1 b2 b3 e0 e1 e2 e3 hst2 hsA hbA q1 q2 f2 q3
 gi_wp2_with fail
 try simp only [zA]
 refine wpIn_rangeFunc_ownH (F:=Fence.wide) rfl (by omega) (gf:=237) (lb:=#[.pointer (some ⟨w.heap.size + 3,0,none⟩)]) rfl trivial (enters_of Tryz.func237 (by kernel_rfl) rfl)
  (zcur_stops (3 - 1) (by omega) g (w.heap.size + 3) v h hw hok W0 hC0 (by omega) (by omega) hM0) (fun h k=>h.trans k) (Ki.putObj (w:=W0)) (Below.refl _ _) (fun _=>rfl)
  (LinkI w g v h (InB L0 N0)) (LinkIx w g v h (InB L0 N0)) (LinkI_own (by omega)) (LinkIx_own (by omega)) hI0
  (fun (x:CurO h) a' W=>∃ (Bx:Nat) (y0 y5 y6 y7 y8 y9 y10 y11 y12 y13 y14 y15 y16 y17:Value),w.heap.size + 4 ≤ Bx∧(∀ j u,(cells6 x.1)[j]?=some u → W.cell? ⟨Bx,j,none⟩=some u)∧a'={ tmps:=#[y0,.pointer (some ⟨w.heap.size,0,none⟩),.pointer (some ⟨w.heap.size + 1,0,none⟩),.pointer (some ⟨w.heap.size + 2,0,none⟩),.pointer (some ⟨Bx,0,none⟩),y5,y6,y7,y8,y9,y10,y11,y12,y13,y14,y15,y16,y17],defers:=[] }) ?hAx ?assign ?body ?done ?stop
 case hAx=>
  rintro x a' _ A B row ⟨Bx,y0,y5,y6,y7,y8,y9,y10,y11,y12,y13,y14,y15,y16,y17,h1,h2,h3⟩ hg hr
  exact ⟨Bx,y0,y5,y6,y7,y8,y9,y10,y11,y12,y13,y14,y15,y16,y17,h1,fun j u hu=>cell_kept (h2 j u hu) hg (fun q e=>(hr q e).2),h3⟩
 case assign=>
  intro l pre x W K hI hK
  simp only [obV]
  gi_wp2
  refine hK _ _ ((KeepsOthers.alloc _ _).from _) (Ki.of_below (Below.alloc (Below.refl _ _) (Nat.le_refl _) _)) ((LinkI_own (w:=w) (B:=W.heap.size) ?hsz).alloc _ hI) ⟨W.heap.size,_,_,_,_,_,_,_,_,_,_,_,_,_,_,?_,?_,rfl⟩
  case hsz=>exact hI.1.2.1.size
  ·exact hI.1.2.2
  ·intro j u hu
   rw [cell_of_row _ _ j _ _ (0,0) (heap_alloc_new _ _)]
   rw [← hu,List.getElem?_toArray]
   rfl
 case body=>
  rintro l pre x a' W hl ⟨rc,hr⟩ hI ⟨Bx,y0,y5,y6,y7,y8,y9,y10,y11,y12,y13,y14,y15,y16,y17,h1,h2,rfl⟩ hlt
  obtain ⟨o,ho⟩:=x
  have OK:=HOB.out o ho
  have hoa:o.a ≤ 100000:=by have:=OK.a1;omega
  have q0:=h2 0 _ rfl
  have q1:=h2 1 _ rfl
  have q2:=h2 2 _ rfl
  have q3:=h2 3 _ rfl
  have q4:=h2 4 _ rfl
  have q5:=h2 5 _ rfl
  have hBl:=World.block_lt_of_cell? W _ q0
  simp only at hBl q0 q1 q2 q3 q4 q5
  obtain ⟨hL,⟨m1,m2,m2f,m3⟩,hpre⟩:=id hI
  obtain ⟨⟨L,N,hR,hq⟩,hg3,hsz⟩:=id hL
  have HL:=Lib.hid hL
  have HPre:=Lib.hid hpre
  have HGQ:=Lib.hid hq
  have HRR:=Lib.hid hR
  have HREo:=Lib.hid fun (w:World) (r:RdL w g v h L N) (b:Bool) hb=>HRE.out w o OK.sh OK.m hoa L N r b hb
  unfold obV at HREo
  clear hI hL hpre hq hR h2
  rcases hrf:refsB h.ws (exB h) o o.n.toNat with _ | _
  ·have hgood:goodR h o=false:=hrf
   gi_wp2_with fail
   refine ⟨trivial,?_⟩
   gi_at_call 187
   refine (CallsIn.inRound l (callsIn_wide.2 (HREo.out _ HRR.out false hrf))).mono ?_
   rintro e w5 ⟨rfl,hX5⟩
   have hL5:=HL.out.step HGQ.out hX5
   have n1:=hX5.cell (k:=w.heap.size) (by omega) m1
   have n2:=hX5.cell (k:=w.heap.size + 1) (by omega) m2
   have n3:=hX5.cell (k:=w.heap.size + 2) (by omega) m3
   have n2f:w5.frozen? ⟨w.heap.size + 1,0,none⟩=false:=(World.frozen?_of_block (hX5.grown.block _ (World.block_lt_of_cell? _ _ m2) (by intro e;injection e with e;have e:w.heap.size + 1=g:=e;omega))).trans m2f
   have hKe:KeepsFrom W0.heap.size W w5:=⟨hX5.grown.size,fun k o hBk hk _=>(hX5.grown.block k (heap_lt hk) (by intro e;injection e with e;omega)).trans hk⟩
   clear m1 m2 m2f m3 q0 q1 q2 q3 q4 q5
   gi_wp2
   exact ⟨hKe.trans ((KeepsOthers.setCell _ _ _).from _),rfl,hL5.set (by omega) (by omega) HQ.out hgl _,World.cell?_setCell_same _ _ _ n2,⟨o,ho⟩,by simp,hgood⟩
  ·have hgood:goodR h o=true:=hrf
   gi_wp2_with fail
   refine ⟨trivial,?_⟩
   gi_at_call 187
   refine (CallsIn.inRound l (callsIn_wide.2 (HREo.out _ HRR.out true hrf))).mono ?_
   rintro e w5 ⟨rfl,hX5⟩
   have hL5:=HL.out.step HGQ.out hX5
   have n1:=hX5.cell (k:=w.heap.size) (by omega) m1
   have n2:=hX5.cell (k:=w.heap.size + 1) (by omega) m2
   have n3:=hX5.cell (k:=w.heap.size + 2) (by omega) m3
   have n2f:w5.frozen? ⟨w.heap.size + 1,0,none⟩=false:=(World.frozen?_of_block (hX5.grown.block _ (World.block_lt_of_cell? _ _ m2) (by intro e;injection e with e;have e:w.heap.size + 1=g:=e;omega))).trans m2f
   have hKe:KeepsFrom W0.heap.size W w5:=⟨hX5.grown.size,fun k o hBk hk _=>(hX5.grown.block k (heap_lt hk) (by intro e;injection e with e;omega)).trans hk⟩
   clear m1 m2 m2f m3 q0 q1 q2 q3 q4 q5
   gi_wp2
   exact ⟨hKe,Ki.of_grown hX5.grown,hL5,⟨n1,n2,n2f,n3⟩,fun y hy=>by
    rw [List.mem_append,List.mem_singleton] at hy
    rcases hy with hy | rfl
    ·exact HPre.out y hy
    ·exact hgood⟩
 case done=>
  rintro D ys W hD hS ⟨hL,⟨m1,m2,m2f,m3⟩,hall⟩ hK
  obtain rfl:b=true:=by
   rw [← HBB.out,List.all_eq_true]
   intro o ho
   rw [← hS,List.mem_map] at ho
   obtain ⟨y,hy,rfl⟩:=ho
   exact hall y hy
  clear hall
  gi_wp2
  have hK':=(KeepsOthers.setCell W ⟨w.heap.size + 1,0,none⟩ (.bool true)).same D _ hK rfl
  have hc5:=cell_kept (World.cell?_setCell_same' W ⟨w.heap.size + 1,0,none⟩ (.bool true) (by rw [m2];rfl)) (grownBy_putObj' _ D (.deferred none)) (fun r e=>by cases e;exact ⟨_,hK',rfl⟩)
  have hL5:=LinkR.own (B:=w.heap.size) (Nat.le_refl _) () _ _ (some D) (hL.set (b:=w.heap.size + 1) (j:=0) (by omega) (by omega) HQ.out hgl (.bool true)) (grownBy_putObj' _ D (.deferred none)) (fun r e=>by cases e;exact ⟨by omega,_,hK',rfl⟩)
  refine ⟨by simp,.inl ⟨_,_,rfl,run_takeDeferred hK',?_⟩⟩
  refine ⟨.bool true,?_,rfl,hL5.rdx⟩
  simp [results,Tryz.f154,go_sem,hc5]
 case stop=>
  rintro D c pre W hD _ ⟨rfl,hL,m2,⟨y,hy,hyb⟩⟩ hK
  obtain rfl:b=false:=by
   rw [← HBB.out]
   rw [Bool.eq_false_iff]
   intro hall
   rw [List.all_eq_true] at hall
   have:=hall y.1 y.2
   rw [hyb] at this
   cases this
  gi_wp2
  have hc5:=cell_kept m2 (grownBy_putObj' _ D (.deferred none)) (fun r e=>by cases e;exact ⟨_,hK,rfl⟩)
  have hL5:=LinkR.own (B:=w.heap.size) (Nat.le_refl _) () _ _ (some D) hL (grownBy_putObj' _ D (.deferred none)) (fun r e=>by cases e;exact ⟨by omega,_,hK,rfl⟩)
  refine ⟨by simp,.inl ⟨_,_,rfl,run_takeDeferred hK,?_⟩⟩
  refine ⟨.bool false,?_,rfl,hL5.rdx⟩
  simp [results,Tryz.f154,go_sem,hc5]
end Go.Proofs.YtafpkaifaccehaaGreatDoor
namespace Go.Proofs.YtafpkaifaccehaaGreatDoor
open Go.RowKit
theorem linked_all {h:Hp} (hk:∀ o ∈ cursH h,0 ≤ o.n):(cursH h).all (goodR h)=true ↔ Linked h:=by
 rw [List.all_eq_true]
 unfold Linked Refs
 constructor
 ·intro ha o ho f hf hb
  have h1:=(refsB_iff _ _ _ _).1 (ha o ho) f (by omega) hb
  unfold exB at h1
  rw [decide_eq_true_iff] at h1
  exact h1
 ·intro ha o ho
  refine (refsB_iff _ _ _ _).2 fun f hf hb=>?_
  have h0:=hk o ho
  have h1:=ha o ho f (by omega) hb
  unfold exB
  rw [decide_eq_true_iff]
  exact h1
theorem cursH_n0 (h:Hp):∀ o ∈ cursH h,0 ≤ o.n:=fun o ho=>by
 obtain ⟨h1,_⟩:=cursH_mem ho
 obtain ⟨j,k,_,_,_,rfl⟩:=mem_obsL h1
 exact (unN_bounds _).1
theorem Rdx.below {B:Nat} {a b c:World} {g:Nat} {v:Hv} {h:Hp} {Q:Nat → Prop} (r:Rdx B b c g v h Q) {B':Nat} (k:Below B' a b) (hB:B' ≤ b.heap.size) (hg:B' ≤ g):Below B' a c:=
 k.grown r.grown hB (fun q hq=>by injection hq with hq;omega)
theorem rd_new {W:World} {v:Hv} {h:Hp} (m:HM W W.heap.size v h):RdL (W.alloc (.cells #[.slice v.A h.ws.length v.ca,.int .i64 h.n,.slice v.U h.us.length v.cu,.slice v.V h.l.length v.cv,.int .u32 0,.int .i32 0,.int .u32 0,.slice none 0 0,.slice none 0 0] 128)) W.heap.size v h (.slice none 0 0) (.slice none 0 0):=
 .inl ⟨rfl,rfl,⟨m.below (Below.alloc (Below.refl _ _) (Nat.le_refl _) _),⟨by simp [go_sem],by simp [go_sem],by simp [go_sem],by simp [go_sem]⟩,by simp [go_sem],by simp [go_sem],by simp [go_sem],by simp [go_sem],by simp [go_sem],by simp [go_sem],by simp [go_sem],by simp [go_sem]⟩⟩
section
variable {w:World} {v:Hv} {h:Hp}
set_option maxHeartbeats 2000000 in
theorem zread_bad (hz:Sizes w) (hM:HM w w.heap.size v h) (hl:h.l.length ≤ 17592186044416) (hw:h.ws.length ≤ 17592186044416) (hk:¬ OkH h) :
  Calls Tryz.prog 73 #[hpV v h] w fun e w'=>e=.returned (.tuple #[.pointer none,.int .i64 2])∧Below w.heap.size w w':=by
 have hiF:=fun b hb=>Lib.hid fun (w:World) (m:HM w w.heap.size v h)=>zframed_any (w:=w) (n:=h.n) (A:=v.A) (U:=v.U) (V:=v.V) (ws:=h.ws) (us:=h.us) (l:=h.l) v.ca v.cu v.cv m.a m.u m.v hl hw b hb
 by_cases q1:Framed h
 ·have HF:=hiF true ⟨fun _=>q1,fun _=>rfl⟩
  have hiO:=fun b hb=>Lib.hid fun (w:World) (m:HM w w.heap.size v h)=>zowned_any (w:=w) (n:=h.n) (A:=v.A) (U:=v.U) (V:=v.V) (us:=h.us) (l:=h.l) (ws:=h.ws) v.ca v.cu v.cv h.ws.length m.u m.v q1 b hb
  by_cases q2:Owned h
  ·have HO:=hiO true ⟨fun _=>(ownedC_iff q1).2 q2,fun _=>rfl⟩
   have hiS:=fun b hb=>Lib.hid fun (w:World) (z:Sizes w) (m:HM w w.heap.size v h)=>zfilled_any (w:=w) (n:=h.n) (A:=v.A) (U:=v.U) (V:=v.V) (us:=h.us) (l:=h.l) (ws:=h.ws) v.ca v.cu v.cv z m.a m.u m.v q1 q2 b hb
   by_cases q3:Filled h
   ·have HS:=hiS true ⟨fun _=>q3,fun _=>rfl⟩
    have q4:(cursH h).all (goodR h)=false:=by
     rw [Bool.eq_false_iff]
     intro ha
     exact hk ⟨q1,q2,q3,(linked_all (cursH_n0 h)).1 ha⟩
    have HL:=Lib.hid fun (w:World) (g:Nat) (r:RdL w g v h (.slice none 0 0) (.slice none 0 0))=>zlinked_any w g v h q1 q2 q3 _ _ r false q4
    clear hiF hiO hiS q1 q2 q3 q4 hk
    unfold hpV hpv at HF HO HS ⊢
    go_enter Tryz.func73,Tryz.ntmps73
    go_wp2_with (first
     | (go_at_call 151;refine (HF.out _ (hM.later bX)).mono ?_;rintro e w1 ⟨rfl,hb_w1⟩;obtain ⟨hc_w1,hf_w1⟩:=bcell hb_w1;have hz_w1_w_0:w.heap.size < w1.heap.size:=lY hb_w1.size;have hz_w1_w_1:w.heap.size + 1 < w1.heap.size:=lY hb_w1.size;have hs_w1:=hb_w1.size;(try simp only [zZ] at hs_w1))
     | (go_at_call 152;refine (HO.out _ (hM.later bX)).mono ?_;rintro e w2 ⟨rfl,hb_w2⟩;obtain ⟨hc_w2,hf_w2⟩:=bcell hb_w2;have hz_w2_w_0:w.heap.size < w2.heap.size:=lY hb_w2.size;have hz_w2_w_1:w.heap.size + 1 < w2.heap.size:=lY hb_w2.size;have hs_w2:=hb_w2.size;(try simp only [zZ] at hs_w2))
     | (go_at_call 153;refine (HS.out _ (hz.later bX) (hM.later bX)).mono ?_;rintro e w3 ⟨rfl,hb_w3⟩;obtain ⟨hc_w3,hf_w3⟩:=bcell hb_w3;have hz_w3_w_0:w.heap.size < w3.heap.size:=lY hb_w3.size;have hz_w3_w_1:w.heap.size + 1 < w3.heap.size:=lY hb_w3.size;have hs_w3:=hb_w3.size;(try simp only [zZ] at hs_w3)))
    have hb3:Below w.heap.size w w3:=bX
    have hm3:=hM.later hb3
    go_at_call 154
    refine (HL.out _ _ (rd_new hm3)).mono ?_
    rintro e w4 ⟨rfl,hX4⟩
    have hb4:Below w.heap.size w w4:=hX4.below (hb3.alloc lX _) (by rw [World.size_alloc];omega) (by omega)
    go_wp2
    go_ret2
    exact ⟨rfl,hb4⟩
   ·have HS:=hiS false ⟨fun h=>(by cases h),fun h=>absurd h q3⟩
    clear hiF hiO hiS q1 q2 q3 hk
    unfold hpV hpv at HF HO HS ⊢
    go_enter Tryz.func73,Tryz.ntmps73
    go_wp2_with (first
     | (go_at_call 151;refine (HF.out _ (hM.later bX)).mono ?_;rintro e w1 ⟨rfl,hb_w1⟩;obtain ⟨hc_w1,hf_w1⟩:=bcell hb_w1;have hz_w1_w_0:w.heap.size < w1.heap.size:=lY hb_w1.size;have hz_w1_w_1:w.heap.size + 1 < w1.heap.size:=lY hb_w1.size;have hs_w1:=hb_w1.size;(try simp only [zZ] at hs_w1))
     | (go_at_call 152;refine (HO.out _ (hM.later bX)).mono ?_;rintro e w2 ⟨rfl,hb_w2⟩;obtain ⟨hc_w2,hf_w2⟩:=bcell hb_w2;have hz_w2_w_0:w.heap.size < w2.heap.size:=lY hb_w2.size;have hz_w2_w_1:w.heap.size + 1 < w2.heap.size:=lY hb_w2.size;have hs_w2:=hb_w2.size;(try simp only [zZ] at hs_w2))
     | (go_at_call 153;refine (HS.out _ (hz.later bX) (hM.later bX)).mono ?_;rintro e w3 ⟨rfl,hb_w3⟩;obtain ⟨hc_w3,hf_w3⟩:=bcell hb_w3;have hz_w3_w_0:w.heap.size < w3.heap.size:=lY hb_w3.size;have hz_w3_w_1:w.heap.size + 1 < w3.heap.size:=lY hb_w3.size;have hs_w3:=hb_w3.size;(try simp only [zZ] at hs_w3)))
    go_ret2
    exact ⟨rfl,bX⟩
  ·have HO:=hiO false ⟨fun h=>(by cases h),fun h=>absurd ((ownedC_iff q1).1 h) q2⟩
   clear hiF hiO q1 q2 hk
   unfold hpV hpv at HF HO ⊢
   go_enter Tryz.func73,Tryz.ntmps73
   go_wp2_with (first
    | (go_at_call 151;refine (HF.out _ (hM.later bX)).mono ?_;rintro e w1 ⟨rfl,hb_w1⟩;obtain ⟨hc_w1,hf_w1⟩:=bcell hb_w1;have hz_w1_w_0:w.heap.size < w1.heap.size:=lY hb_w1.size;have hz_w1_w_1:w.heap.size + 1 < w1.heap.size:=lY hb_w1.size;have hs_w1:=hb_w1.size;(try simp only [zZ] at hs_w1))
    | (go_at_call 152;refine (HO.out _ (hM.later bX)).mono ?_;rintro e w2 ⟨rfl,hb_w2⟩;obtain ⟨hc_w2,hf_w2⟩:=bcell hb_w2;have hz_w2_w_0:w.heap.size < w2.heap.size:=lY hb_w2.size;have hz_w2_w_1:w.heap.size + 1 < w2.heap.size:=lY hb_w2.size;have hs_w2:=hb_w2.size;(try simp only [zZ] at hs_w2)))
   go_ret2
   exact ⟨rfl,bX⟩
 ·have HF:=hiF false ⟨fun h=>(by cases h),fun h=>absurd h q1⟩
  clear hiF q1 hk
  unfold hpV hpv at HF ⊢
  go_enter Tryz.func73,Tryz.ntmps73
  go_wp2_with (go_at_call 151;refine (HF.out _ (hM.later bX)).mono ?_;rintro e w1 ⟨rfl,hb_w1⟩;obtain ⟨hc_w1,hf_w1⟩:=bcell hb_w1;have hz_w1_w_0:w.heap.size < w1.heap.size:=lY hb_w1.size;have hz_w1_w_1:w.heap.size + 1 < w1.heap.size:=lY hb_w1.size;have hs_w1:=hb_w1.size;(try simp only [zZ] at hs_w1))
  go_ret2
  exact ⟨rfl,bX⟩
set_option maxHeartbeats 2000000 in
theorem zread_ok (hz:Sizes w) (hM:HM w w.heap.size v h) (hk:OkH h) :
  Calls Tryz.prog 73 #[hpV v h] w fun e w'=>∃ g L N,e=.returned (.tuple #[.pointer (some ⟨g,0,none⟩),.int .i64 0])∧w.heap.size ≤ g∧RdL w' g v h L N∧(∀ q,InB L N q → w.heap.size ≤ q)∧Below w.heap.size w w':=by
 have hl:h.l.length ≤ 17592186044416:=by have:=hk.framed.spans.1;omega
 have hw:h.ws.length ≤ 17592186044416:=by have:=hk.framed.words;omega
 have hiF:=fun b hb=>Lib.hid fun (w:World) (m:HM w w.heap.size v h)=>zframed_any (w:=w) (n:=h.n) (A:=v.A) (U:=v.U) (V:=v.V) (ws:=h.ws) (us:=h.us) (l:=h.l) v.ca v.cu v.cv m.a m.u m.v hl hw b hb
 have q1:=hk.framed
 have HF:=hiF true ⟨fun _=>q1,fun _=>rfl⟩
 have hiO:=fun b hb=>Lib.hid fun (w:World) (m:HM w w.heap.size v h)=>zowned_any (w:=w) (n:=h.n) (A:=v.A) (U:=v.U) (V:=v.V) (us:=h.us) (l:=h.l) (ws:=h.ws) v.ca v.cu v.cv h.ws.length m.u m.v q1 b hb
 have q2:=hk.owned
 have HO:=hiO true ⟨fun _=>(ownedC_iff q1).2 q2,fun _=>rfl⟩
 have hiS:=fun b hb=>Lib.hid fun (w:World) (z:Sizes w) (m:HM w w.heap.size v h)=>zfilled_any (w:=w) (n:=h.n) (A:=v.A) (U:=v.U) (V:=v.V) (us:=h.us) (l:=h.l) (ws:=h.ws) v.ca v.cu v.cv z m.a m.u m.v q1 q2 b hb
 have q3:=hk.filled
 have HS:=hiS true ⟨fun _=>q3,fun _=>rfl⟩
 have q4:(cursH h).all (goodR h)=true:=(linked_all (cursH_n0 h)).2 hk.linked
 have HL:=Lib.hid fun (w:World) (g:Nat) (r:RdL w g v h (.slice none 0 0) (.slice none 0 0))=>zlinked_any w g v h q1 q2 q3 _ _ r true q4
 clear hiF hiO hiS q1 q2 q3 q4 hk hl hw
 unfold hpV hpv at HF HO HS ⊢
 go_enter Tryz.func73,Tryz.ntmps73
 go_wp2_with (first
  | (go_at_call 151;refine (HF.out _ (hM.later bX)).mono ?_;rintro e w1 ⟨rfl,hb_w1⟩;obtain ⟨hc_w1,hf_w1⟩:=bcell hb_w1;have hz_w1_w_0:w.heap.size < w1.heap.size:=lY hb_w1.size;have hz_w1_w_1:w.heap.size + 1 < w1.heap.size:=lY hb_w1.size;have hs_w1:=hb_w1.size;(try simp only [zZ] at hs_w1))
  | (go_at_call 152;refine (HO.out _ (hM.later bX)).mono ?_;rintro e w2 ⟨rfl,hb_w2⟩;obtain ⟨hc_w2,hf_w2⟩:=bcell hb_w2;have hz_w2_w_0:w.heap.size < w2.heap.size:=lY hb_w2.size;have hz_w2_w_1:w.heap.size + 1 < w2.heap.size:=lY hb_w2.size;have hs_w2:=hb_w2.size;(try simp only [zZ] at hs_w2))
  | (go_at_call 153;refine (HS.out _ (hz.later bX) (hM.later bX)).mono ?_;rintro e w3 ⟨rfl,hb_w3⟩;obtain ⟨hc_w3,hf_w3⟩:=bcell hb_w3;have hz_w3_w_0:w.heap.size < w3.heap.size:=lY hb_w3.size;have hz_w3_w_1:w.heap.size + 1 < w3.heap.size:=lY hb_w3.size;have hs_w3:=hb_w3.size;(try simp only [zZ] at hs_w3)))
 have hb3:Below w.heap.size w w3:=bX
 have hm3:=hM.later hb3
 go_at_call 154
 refine (HL.out _ _ (rd_new hm3)).mono ?_
 rintro e w4 ⟨rfl,hX4⟩
 have hb4:Below w.heap.size w w4:=hX4.below (hb3.alloc lX _) (by rw [World.size_alloc];omega) (by omega)
 obtain ⟨L,N,hR4,hq4⟩:=hX4.rd
 go_wp2
 go_ret2
 exact ⟨w3.heap.size,L,N,rfl,by omega,hR4,fun q hq=>by
  rcases hq4 q hq with h | h
  ·rcases h with h | h <;> cases h
  ·rw [World.size_alloc] at h;omega,hb4⟩
end
theorem Rdx.frozen {B:Nat} {a b:World} {g:Nat} {v:Hv} {h:Hp} {Q:Nat → Prop} (r:Rdx B a b g v h Q) {k o:Nat} (hk:k ≠ g) (hl:k < a.heap.size) {y:Bool} (hy:a.frozen? ⟨k,o,none⟩=y):b.frozen? ⟨k,o,none⟩=y:=
 (World.frozen?_of_block (w:=a) (a:=⟨k,o,none⟩) (r.grown.block _ hl (by intro e;injection e with e;exact hk e))).trans hy
def AtE (h:Hp) (a:Nat) (n:Int) (m:Nat) (y:Int):Prop:=(¬ OkH h∧n=0∧m=0∧y=2) ∨ (OkH h∧n=(fnO h a).n∧m=(fnO h a).m∧y=fnY h a)
theorem AtE.ex (h:Hp) (a:Nat):∃ n m y,AtE h a n m y:=by
 by_cases hk:OkH h
 ·exact ⟨_,_,_,.inr ⟨hk,rfl,rfl,rfl⟩⟩
 ·exact ⟨_,_,_,.inl ⟨hk,rfl,rfl,rfl⟩⟩
def MkdE (h:Hp) (a:Nat) (b:Bool) (y:Int):Prop:=(¬ OkH h∧b=false∧y=2) ∨ (OkH h∧b=(fnO h a).b∧y=fnY h a)
theorem MkdE.ex (h:Hp) (a:Nat):∃ b y,MkdE h a b y:=by
 by_cases hk:OkH h
 ·exact ⟨_,_,.inr ⟨hk,rfl,rfl⟩⟩
 ·exact ⟨_,_,.inl ⟨hk,rfl,rfl⟩⟩
section
variable {w:World} {v:Hv} {h:Hp}
theorem zcheck_any (hz:Sizes w) (hM:HM w w.heap.size v h) (hl:h.l.length ≤ 17592186044416) (hw:h.ws.length ≤ 17592186044416) (y:Int) (hy:(OkH h∧y=0) ∨ (¬ OkH h∧y=2)) :
  Calls Tryz.prog 21 #[hpV v h] w fun e w'=>e=.returned (.int .i64 y)∧Below w.heap.size w w':=by
 rcases hy with ⟨hk,rfl⟩ | ⟨hk,rfl⟩
 ·have HR:=Lib.hid fun (w:World) z m=>zread_ok (w:=w) (v:=v) (h:=h) z m hk
  clear hk
  unfold hpV hpv at HR ⊢
  go_enter Tryz.func21,Tryz.ntmps21
  go_wp2_with (go_at_call 73;refine (HR.out _ (hz.later bX) (hM.later bX)).mono ?_;rintro e w1 ⟨g,L,N,rfl,_,_,_,hb_w1⟩;obtain ⟨hc_w1,hf_w1⟩:=bcell hb_w1;have hz_w1_w_0:w.heap.size < w1.heap.size:=lY hb_w1.size;have hs_w1:=hb_w1.size;(try simp only [zZ] at hs_w1))
  go_ret
  exact ⟨rfl,bX⟩
 ·have HR:=Lib.hid fun (w:World) z m=>zread_bad (w:=w) (v:=v) (h:=h) z m hl hw hk
  clear hk
  unfold hpV hpv at HR ⊢
  go_enter Tryz.func21,Tryz.ntmps21
  go_wp2_with (go_at_call 73;refine (HR.out _ (hz.later bX) (hM.later bX)).mono ?_;rintro e w1 ⟨rfl,hb_w1⟩;obtain ⟨hc_w1,hf_w1⟩:=bcell hb_w1;have hz_w1_w_0:w.heap.size < w1.heap.size:=lY hb_w1.size;have hs_w1:=hb_w1.size;(try simp only [zZ] at hs_w1))
  go_ret
  exact ⟨rfl,bX⟩
end
def LoadE (h:Hp) (a:Nat) (f:Int) (x:Nat) (r:Bool) (y:Int):Prop:=(¬ OkH h∧x=0∧r=false∧y=2) ∨ (OkH h∧fnY h a ≠ 0∧x=0∧r=false∧y=fnY h a) ∨
 (OkH h∧fnY h a=0∧¬ (0 ≤ f∧f < (fnO h a).n)∧x=0∧r=false∧y=9) ∨ (OkH h∧fnY h a=0∧(0 ≤ f∧f < (fnO h a).n)∧x=h.ws.getD (a + 1 + f.toNat) 0∧r=(fnO h a).m.testBit f.toNat∧y=0)
theorem LoadE.ex (h:Hp) (a:Nat) (f:Int):∃ x r y,LoadE h a f x r y:=by
 by_cases hk:OkH h
 ·by_cases h1:fnY h a=0
  ·by_cases h2:0 ≤ f∧f < (fnO h a).n
   ·exact ⟨_,_,_,.inr (.inr (.inr ⟨hk,h1,h2,rfl,rfl,rfl⟩))⟩
   ·exact ⟨_,_,_,.inr (.inr (.inl ⟨hk,h1,h2,rfl,rfl,rfl⟩))⟩
  ·exact ⟨_,_,_,.inr (.inl ⟨hk,h1,rfl,rfl,rfl⟩)⟩
 ·exact ⟨_,_,_,.inl ⟨hk,rfl,rfl,rfl⟩⟩
section
variable {w:World} {v:Hv} {h:Hp}
end
theorem res_span {fn:Func} {p u:Tmp} (h:fn.results=#[.cell p 72,.tmp u]) {tmps:Array Value} {w:World} {g ca cm:Nat} {d:Sd} {A M:Option Addr} (hp:tmps.getD p undef=.pointer (some ⟨g,0,none⟩))
  (h8:Sp8 w g 0 d A ca M cm):(results fn tmps).run Tryz.prog w=.ok (.tuple #[spv d A ca M cm,tmps.getD u undef]) w:=by
 rw [results_cell_tmp h,hp]
 obtain ⟨c0,c1,c2,c3,c4,c5,c6,c7⟩:=h8
 simp only [Nat.zero_add] at c0 c1 c2 c3 c4 c5 c6 c7
 simp [go_sem,Result.andThen,c0,c1,c2,c3,c4,c5,c6,c7,asAddr,spv]
theorem Sp8.far {w:World} {g o ca cm:Nat} {d:Sd} {A M:Option Addr} (h:Sp8 w g o d A ca M cm) {p:Addr} (hp:p.block ≠ g) (u:Value):Sp8 (w.setCell p u) g o d A ca M cm:=by
 have k:∀ i v,w.cell? ⟨g,i,none⟩=some v → (w.setCell p u).cell? ⟨g,i,none⟩=some v:=fun i v hv=>by
  rw [cO]
  ·exact hv
  ·rintro rfl;exact hp rfl
 exact ⟨k _ _ h.c0,k _ _ h.c1,k _ _ h.c2,k _ _ h.c3,k _ _ h.c4,k _ _ h.c5,k _ _ h.c6,k _ _ h.c7⟩
theorem Sp8.set {w:World} {g ca cm ca' cm':Nat} {d d':Sd} {A M A' M':Option Addr} (h:Sp8 w g 0 d A ca M cm) :
  Sp8 ((((((((w.setCell ⟨g,0,none⟩ (.int .i64 d'.f)).setCell ⟨g,1,none⟩ (.int .i64 d'.p)).setCell ⟨g,2,none⟩ (.int .i64 d'.z)).setCell ⟨g,3,none⟩ (.int .i64 d'.an)).setCell ⟨g,4,none⟩ (.slice A' d'.aw.length ca')).setCell ⟨g,5,none⟩ (.int .i64 d'.mn)).setCell ⟨g,6,none⟩ (.slice M' d'.mw.length cm')).setCell ⟨g,7,none⟩ (.bool d'.s)) g 0 d' A' ca' M' cm':=by
 obtain ⟨c0,c1,c2,c3,c4,c5,c6,c7⟩:=h
 simp only [Nat.zero_add] at c0 c1 c2 c3 c4 c5 c6 c7
 constructor <;> simp [go_sem,c0,c1,c2,c3,c4,c5,c6,c7]
def newSd (f p z:Int):Sd:=⟨f,p,z,slotsOf z,wordsN (slotsOf z),slotsOf z,wordsN (slotsOf z),true⟩
def FreshS (w:World) (d:Sd) (y:Int) (e:Ending) (w':World):Prop:=
 ∃ A ca M cm,e=.returned (.tuple #[spv d A ca M cm,.int .i64 y])∧Own w' w.heap.size A d.aw∧Own w' w.heap.size M d.mw∧Below w.heap.size w w'
section
variable {w:World} (f p z:Int)
set_option maxHeartbeats 1000000 in
theorem sMake_ok (h1:Sized p z) (h2:Placed f p):Calls Tryz.prog 226 #[.int .i64 f,.int .i64 p,.int .i64 z] w fun e w'=>FreshS w (newSd f p z) 0 e w':=by
 have hs:=h1.slots
 have Z:=Lib.hid fun (w:World)=>ssized_any (w:=w) ⟨f,p,z,0,[],0,[],true⟩ none 0 none 0 true (decide_eq_true h1)
 have P:=Lib.hid fun (w:World)=>splaced_any (w:=w) ⟨f,p,z,0,[],0,[],true⟩ none 0 none 0 (by simp only;omega) true (decide_eq_true h2)
 have S1:=Lib.hid fun (w:World)=>sslots_any (w:=w) ⟨f,p,z,0,[],0,[],true⟩ none 0 none 0 h1
 have S2:=Lib.hid fun (w:World) A ca n (ws:List Nat)=>sslots_any (w:=w) ⟨f,p,z,n,ws,0,[],true⟩ A ca none 0 h1
 have K:=Lib.hid fun (w:World)=>make_ok (slotsOf z) w (by omega) (by omega)
 unfold FreshS newSd
 clear h1 h2
 unfold spv at *
 simp only [List.length_nil] at *
 generalize slotsOf z=n at *
 unfold Fresh at K
 generalize wordsN n=ws at *
 go_enter Tryz.func226,Tryz.ntmps226
 go_wp2_with fail
 go_at_call 258
 refine (Z.out _).mono ?_
 rintro e w1 ⟨rfl,hb_w1⟩
 obtain ⟨hc_w1,hf_w1⟩:=bcell hb_w1;have hz_w1_w_0:w.heap.size < w1.heap.size:=lY hb_w1.size;have hz_w1_w_1:w.heap.size + 1 < w1.heap.size:=lY hb_w1.size;have hs_w1:=hb_w1.size;(try simp only [zZ] at hs_w1)
 have Z1:Sp8 w1 w.heap.size 0 sd0 none 0 none 0:=by constructor <;> exact (hc_w1 _ _ lX).trans (by simp [go_sem,sd0])
 go_wp2_with fail
 go_at_call 259
 refine (P.out _).mono ?_
 rintro e w2 ⟨rfl,hb_w2⟩
 obtain ⟨hc_w2,hf_w2⟩:=bcell hb_w2;have hz_w2_w_0:w.heap.size < w2.heap.size:=lY hb_w2.size;have hz_w2_w_1:w.heap.size + 1 < w2.heap.size:=lY hb_w2.size;have hs_w2:=hb_w2.size;(try simp only [zZ] at hs_w2)
 go_wp2_with fail
 go_at_call 228
 refine (S1.out _).mono ?_
 rintro e w3 ⟨rfl,hb_w3⟩
 obtain ⟨hc_w3,hf_w3⟩:=bcell hb_w3;have hz_w3_w_0:w.heap.size < w3.heap.size:=lY hb_w3.size;have hz_w3_w_1:w.heap.size + 1 < w3.heap.size:=lY hb_w3.size;have hs_w3:=hb_w3.size;(try simp only [zZ] at hs_w3)
 go_wp2_with fail
 go_at_call 122
 refine (K.out _).mono ?_
 rintro e w4 ⟨A4,ca4,rfl,ho4,hb_w4⟩
 obtain ⟨hc_w4,hf_w4⟩:=bcell hb_w4;have hz_w4_w_0:w.heap.size < w4.heap.size:=lY hb_w4.size;have hz_w4_w_1:w.heap.size + 1 < w4.heap.size:=lY hb_w4.size;have hs_w4:=hb_w4.size;(try simp only [zZ] at hs_w4)
 go_wp2_with fail
 go_at_call 228
 refine (S2.out _ A4 ca4 n ws).mono ?_
 rintro e w5 ⟨rfl,hb_w5⟩
 obtain ⟨hc_w5,hf_w5⟩:=bcell hb_w5;have hz_w5_w_0:w.heap.size < w5.heap.size:=lY hb_w5.size;have hz_w5_w_1:w.heap.size + 1 < w5.heap.size:=lY hb_w5.size;have hs_w5:=hb_w5.size;(try simp only [zZ] at hs_w5)
 go_wp2_with fail
 go_at_call 122
 refine (K.out _).mono ?_
 rintro e w6 ⟨A6,ca6,rfl,ho6,hb_w6⟩
 obtain ⟨hc_w6,hf_w6⟩:=bcell hb_w6;have hz_w6_w_0:w.heap.size < w6.heap.size:=lY hb_w6.size;have hz_w6_w_1:w.heap.size + 1 < w6.heap.size:=lY hb_w6.size;have hs_w6:=hb_w6.size;(try simp only [zZ] at hs_w6)
 have bW:Below w.heap.size w w6:=bX
 have Z4:=((Z1.below hb_w2 lX).below hb_w3 lX).below hb_w4 lX
 have Z6:=((((Z4.far (p:=⟨w.heap.size + 1,3,none⟩) (by simp) (.int .i64 n)).far (p:=⟨w.heap.size + 1,4,none⟩) (by simp) (.slice A4 ws.length ca4)).below hb_w5 lX).below hb_w6 lX)
 have O5:=((ho4.far (p:=⟨w.heap.size + 1,3,none⟩) (.inl lX) (.int .i64 n)).far (p:=⟨w.heap.size + 1,4,none⟩) (.inl lX) (.slice A4 ws.length ca4)).later hb_w5
 have O6:=O5.later hb_w6
 go_wp2
 have Z7:=(Z6.far (p:=⟨w.heap.size + 1,5,none⟩) (by simp) (.int .i64 n)).far (p:=⟨w.heap.size + 1,6,none⟩) (by simp) (.slice A6 ws.length ca6)
 have Z8:=Z7.set (d':=⟨f,p,z,n,ws,n,ws,true⟩) (A':=A4) (ca':=ca4) (M':=A6) (cm':=ca6)
 refine bodyPost_ret (res_span rfl rfl Z8) rfl ⟨A4,ca4,A6,ca6,rfl,?_,?_,?_⟩
 ·refine Own.mono (B:=w3.heap.size) ?_ lX
  iterate 10 (refine Own.far ?_ (.inl lX) _)
  exact O6
 ·refine Own.mono (B:=w5.heap.size) ?_ lX
  iterate 10 (refine Own.far ?_ (.inl lX) _)
  exact ho6
 ·iterate 10 (refine Below.setCell ?_ lX _)
  exact bW
end
def IdxE (l:List Sd) (p:Sd → Bool) (r:Int):Prop:=(r=-1∧∀ i,i < l.length → p (nth l i)=false) ∨ (∃ i:Nat,r=i∧i < l.length∧p (nth l i)=true∧∀ j,j < i → p (nth l j)=false)
def Says (g:FuncId) (lb:Array Value) (l:List Sd) (p:Sd → Bool) (w:World):Prop:=
 ∀ (W:World) (i:Nat) (A M:Option Addr) (ca cm:Nat),Below w.heap.size w W → i < l.length → Row W W.heap.size A (nth l i).aw → Row W W.heap.size M (nth l i).mw →
  Calls Tryz.prog g (#[spv (nth l i) A ca M cm] ++ lb) W fun e W'=>e=.returned (.bool (p (nth l i)))∧Below W.heap.size W W'
section
variable {w:World} {A:Option Addr} {l:List Sd} (cap:Nat)
set_option maxHeartbeats 1000000 in
theorem sindex_any (g:FuncId) (lb:Array Value) (p:Sd → Bool) (eg:∀ args w,(callFunc g args).run Tryz.prog w=.ok (.enter g args) w) (hr:SRow w w.heap.size A l) (hl:l.length ≤ 17592186044416) (hs:Says g lb l p w) (r:Int) (hI:IdxE l p r) :
  Calls Tryz.prog 188 #[.slice A l.length cap,.func (.func g) #[] lb] w fun e w'=>e=.returned (.int .i64 r)∧Below w.heap.size w w':=by
 have HI:=Lib.hid hI
 have HS:=Lib.hid hs
 clear hI hs
 go_enter Tryz.func188,Tryz.ntmps188
 go_wp2_with fail
 go_loopw [8] (fun ii wr=>∃ k:Nat,ii=.int .i64 (k:Nat)∧k ≤ l.length∧(∀ j,j < k → p (nth l j)=false)∧Below w.heap.size w wr) (fun ii _=>l.length - (intOf ii).toNat)
 case atStart=>exact ⟨0,rfl,Nat.zero_le _,fun j hj=>by omega,bX⟩
 case round=>
  obtain ⟨k,rfl,hk,hA,hb_wr⟩:=hrel
  have hsr:=hb_wr.size
  have HA:=Lib.hid hA
  clear hA
  by_cases hlt:k < l.length
  ·obtain ⟨b,off,rfl,hbb,hc⟩:=(hr.later hb_wr).at_ (by omega)
   obtain ⟨Aa,ca,Am,cm,c8,ra,rm⟩:=hc k hlt
   have hcall:=HS.out wr k Aa Am ca cm hb_wr hlt ra rm
   obtain ⟨d,hd⟩:∃ d,Hid (nth l k=d):=⟨_,rfl⟩
   rw [hd.out] at c8 ra rm hcall
   obtain ⟨c0,c1,c2,c3,c4,c5,c6,c7⟩:=id c8
   clear hc
   rcases hq:p d with _ | _
   ·rw [hq] at hcall
    have HC:=Lib.hid hcall
    have HN:Hid (∀ j,j < k + 1 → p (nth l j)=false):=Lib.hid fun j hj=>by
     by_cases e:j=k
     ·rw [e,hd.out];exact hq
     ·exact HA.out j (by omega)
    clear hcall
    obtain ⟨f,p',z,an,aw,mn,mw,s⟩:=d
    simp only at c0 c1 c2 c3 c4 c5 c6 c7
    unfold spv at HC
    simp only at HC
    go_wp2_with (refine HC.out.mono ?_;rintro e w1 ⟨rfl,hb_w1⟩;obtain ⟨hc_w1,hf_w1⟩:=bcell hb_w1;have hs_w1:=hb_w1.size;(try simp only [zZ] at hs_w1))
    go_roundw
    case rel=>exact ⟨k + 1,by go_num,by omega,HN.out,bX⟩
    case measure=>simp [intOf];omega
   ·rw [hq] at hcall
    have HC:=Lib.hid hcall
    obtain rfl:r=(k:Int):=by
     rcases HI.out with ⟨_,h⟩ | ⟨i,h1,h2,h3,h4⟩
     ·have:=h k hlt
      rw [hd.out,hq] at this
      cases this
     ·rw [h1]
      rcases Nat.lt_trichotomy i k with h | h | h
      ·rw [HA.out i h] at h3;cases h3
      ·rw [h]
      ·have:=h4 k h
       rw [hd.out,hq] at this
       cases this
    clear hcall
    obtain ⟨f,p',z,an,aw,mn,mw,s⟩:=d
    simp only at c0 c1 c2 c3 c4 c5 c6 c7
    unfold spv at HC
    simp only at HC
    go_wp2_with (refine HC.out.mono ?_;rintro e w1 ⟨rfl,hb_w1⟩;obtain ⟨hc_w1,hf_w1⟩:=bcell hb_w1;have hs_w1:=hb_w1.size;(try simp only [zZ] at hs_w1))
    go_ret
    exact ⟨rfl,bX⟩
  ·obtain rfl:k=l.length:=by omega
   obtain rfl:r=-1:=by
    rcases HI.out with ⟨h,_⟩ | ⟨i,h1,h2,h3,h4⟩
    ·exact h
    ·rw [HA.out i h2] at h3;cases h3
   go_wp2
   go_ret
   exact ⟨rfl,bX⟩
end
def IdxN (n:Nat) (q:Nat → Bool) (r:Int):Prop:=(r=-1∧∀ i,i < n → q i=false) ∨ (∃ i:Nat,r=i∧i < n∧q i=true∧∀ j,j < i → q j=false)
theorem IdxN.ex (n:Nat) (q:Nat → Bool):∃ r,IdxN n q r:=by
 induction n with
 | zero=>exact ⟨-1,.inl ⟨rfl,fun i hi=>by omega⟩⟩
 | succ n ih=>
  obtain ⟨r,⟨h1,h2⟩ | ⟨i,h1,h2,h3,h4⟩⟩:=ih
  ·rcases hq:q n with _ | _
   ·exact ⟨-1,.inl ⟨rfl,fun i hi=>by
     by_cases e:i=n
     ·rw [e];exact hq
     ·exact h2 i (by omega)⟩⟩
   ·exact ⟨n,.inr ⟨n,rfl,by omega,hq,h2⟩⟩
  ·exact ⟨r,.inr ⟨i,h1,by omega,h3,h4⟩⟩
theorem IdxE.ex (l:List Sd) (p:Sd → Bool):∃ r,IdxE l p r:=by
 obtain ⟨r,h⟩:=IdxN.ex l.length fun i=>p (nth l i)
 exact ⟨r,h⟩
def SaysN (g:FuncId) (lb:Array Value) (n:Nat) (q:Nat → Bool) (w:World):Prop:=
 ∀ (W:World) (k:Nat),Below w.heap.size w W → k < n → Calls Tryz.prog g (#[.int .i64 (k:Nat)] ++ lb) W fun e W'=>e=.returned (.bool (q k))∧Below W.heap.size W W'
section
variable {w:World} {d:Sd} {A M:Option Addr} (ca cm:Nat)
theorem salloc_any (hA:Row w w.heap.size A d.aw) (h:Right d.an d.aw) (k:Int) (h0:0 ≤ k) (h1:k < d.an) :
  Calls Tryz.prog 257 #[spv d A ca M cm,.int .i64 k] w fun e w'=>e=.returned (.bool (tb d.aw k.toNat))∧Below w.heap.size w w':=by
 have H:=Lib.hid h
 clear h
 obtain ⟨f,p,z,an,aw,mn,mw,s⟩:=d
 simp only at *
 unfold spv
 simp only
 rcases hb:tb aw k.toNat with _ | _
 all_goals
  go_enter Tryz.func257,Tryz.ntmps257
  go_wp2_with (go_at_call 241;refine (get_in ca k (hA.later bX) H.out h0 h1).mono ?_;rintro e w1 ⟨rfl,hb_w1⟩;rw [hb];obtain ⟨hc_w1,hf_w1⟩:=bcell hb_w1;have hz_w1_w_0:w.heap.size < w1.heap.size:=lY hb_w1.size;have hs_w1:=hb_w1.size;(try simp only [zZ] at hs_w1))
  go_ret
  exact ⟨rfl,bX⟩
set_option maxHeartbeats 1000000 in
theorem swhere_any {p:Int} (h:Sized p d.z) (g:FuncId) (lb:Array Value) (n:Nat) (hn:slotsOf d.z=n) (q:Nat → Bool) (eg:∀ args w,(callFunc g args).run Tryz.prog w=.ok (.enter g args) w) (hs:SaysN g lb n q w) (r:Int) (hI:IdxN n q r) :
  Calls Tryz.prog 255 #[spv d A ca M cm,.func (.func g) #[] lb] w fun e w'=>e=.returned (.int .i64 r)∧Below w.heap.size w w':=by
 have HI:=Lib.hid hI
 have HS:=Lib.hid hs
 have hz:=h.slots
 have S:=Lib.hid fun (w:World)=>sslots_any (w:=w) d A ca M cm h
 rw [hn] at S hz
 clear hI hs h hn
 obtain ⟨f,p,z,an,aw,mn,mw,s⟩:=d
 simp only at *
 unfold spv at S ⊢
 simp only at S ⊢
 go_enter Tryz.func255,Tryz.ntmps255
 go_wp2_with fail
 go_at_call 228
 refine (S.out _).mono ?_
 rintro e w1 ⟨rfl,hb_w1⟩
 obtain ⟨hc_w1,hf_w1⟩:=bcell hb_w1;have hz_w1_w_0:w.heap.size < w1.heap.size:=lY hb_w1.size;have hs_w1:=hb_w1.size;(try simp only [zZ] at hs_w1)
 have b1:Below w.heap.size w w1:=bX
 clear hc_w1 hf_w1
 go_wp2_with fail
 go_loopw [8] (fun ii wr=>∃ k:Nat,ii=.int .i64 (k:Nat)∧k ≤ n∧(∀ j,j < k → q j=false)∧Below w.heap.size w wr) (fun ii _=>n - (intOf ii).toNat)
 case atStart=>exact ⟨0,rfl,Nat.zero_le _,fun j hj=>by omega,b1⟩
 case round=>
  obtain ⟨k,rfl,hk,hA,hb_wr⟩:=hrel
  have hsr:=hb_wr.size
  have HA:=Lib.hid hA
  clear hA
  by_cases hlt:k < n
  ·have hcall:=HS.out wr k hb_wr hlt
   rcases hq:q k with _ | _
   ·rw [hq] at hcall
    have HC:=Lib.hid hcall
    have HN:Hid (∀ j,j < k + 1 → q j=false):=Lib.hid fun j hj=>by
     by_cases e:j=k
     ·rw [e];exact hq
     ·exact HA.out j (by omega)
    clear hcall
    go_wp2_with (refine HC.out.mono ?_;rintro e w2 ⟨rfl,hb_w2⟩;obtain ⟨hc_w2,hf_w2⟩:=bcell hb_w2;have hs_w2:=hb_w2.size;(try simp only [zZ] at hs_w2))
    go_roundw
    case rel=>exact ⟨k + 1,by go_num,by omega,HN.out,bX⟩
    case measure=>simp [intOf];omega
   ·rw [hq] at hcall
    have HC:=Lib.hid hcall
    obtain rfl:r=(k:Int):=by
     rcases HI.out with ⟨_,h⟩ | ⟨i,h1,h2,h3,h4⟩
     ·have:=h k hlt
      rw [hq] at this
      cases this
     ·rw [h1]
      rcases Nat.lt_trichotomy i k with h | h | h
      ·rw [HA.out i h] at h3;cases h3
      ·rw [h]
      ·have:=h4 k h
       rw [hq] at this
       cases this
    clear hcall
    go_wp2_with (refine HC.out.mono ?_;rintro e w2 ⟨rfl,hb_w2⟩;obtain ⟨hc_w2,hf_w2⟩:=bcell hb_w2;have hs_w2:=hb_w2.size;(try simp only [zZ] at hs_w2))
    go_ret
    exact ⟨rfl,bX⟩
  ·obtain rfl:k=n:=by omega
   obtain rfl:r=-1:=by
    rcases HI.out with ⟨h,_⟩ | ⟨i,h1,h2,h3,h4⟩
    ·exact h
    ·rw [HA.out i h2] at h3;cases h3
   go_wp2
   go_ret
   exact ⟨rfl,bX⟩
end
def inP (a:Nat) (d:Sd):Bool:=decide (d.f * 16 ≤ (a:Int)∧(a:Int) < (d.f + d.p) * 16)
def isAt (a:Nat) (d:Sd) (k:Nat):Bool:=decide (d.f * 16 + (k:Int) * d.z=(a:Int)) && tb d.aw k
section
variable {w:World} {d:Sd} {A M:Option Addr} (ca cm:Nat)
end
def FindE (l:List Sd) (a:Nat) (x k y:Int):Prop:=(¬ OkL l∧x=0∧k=0∧y=2) ∨ (OkL l∧IdxE l (inP a) (-1)∧x=0∧k=0∧y=3) ∨
 (∃ i:Nat,OkL l∧IdxE l (inP a) i∧((IdxN (slotsOf (nth l i).z).toNat (isAt a (nth l i)) (-1)∧x=0∧k=0∧y=10) ∨ (∃ j:Nat,IdxN (slotsOf (nth l i).z).toNat (isAt a (nth l i)) j∧x=i∧k=j∧y=0)))
section
variable {w:World} {A:Option Addr} {l:List Sd} (cap:Nat)
end
theorem eg_free1:∀ args w,(callFunc 256 args).run Tryz.prog w=.ok (.enter 256 args) w:=enters_of Tryz.func256 (by kernel_rfl) rfl
section
variable {w:World} {d:Sd} {A M:Option Addr} (ca cm:Nat)
set_option maxHeartbeats 1000000 in
theorem sfree1_any (B k:Nat) (h:Ok1 d) (hA:Row w w.heap.size A d.aw) (c8:Sp8 w B 0 d A ca M cm) (hk:(k:Int) < slotsOf d.z) :
  Calls Tryz.prog 256 #[.int .i64 (k:Nat),.pointer (some ⟨B,0,none⟩)] w fun e w'=>e=.returned (.bool (!tb d.aw k))∧Below w.heap.size w w':=by
 have G:=Lib.hid fun (w:World) hA=>salloc_any (w:=w) (d:=d) (A:=A) (M:=M) ca cm hA h.a (k:Nat) (by omega) (by rw [h.an];exact hk)
 have hbt:Hid (((k:Int)).toNat=k):=Lib.hid (Int.toNat_natCast k)
 rw [hbt.out] at G
 have zb:=c8.lt
 obtain ⟨c0,c1,c2,c3,c4,c5,c6,c7⟩:=c8
 simp only [Nat.zero_add] at c0 c1 c2 c3 c4 c5 c6 c7
 clear h hk
 obtain ⟨f,p,z,an,aw,mn,mw,s⟩:=d
 simp only at *
 unfold spv at G
 simp only at G
 go_enter Tryz.func256,Tryz.ntmps256
 go_wp2_with (go_at_call 257;refine (G.out _ (hA.later bX)).mono ?_;rintro e w1 ⟨rfl,hb_w1⟩;obtain ⟨hc_w1,hf_w1⟩:=bcell hb_w1;have hs_w1:=hb_w1.size;(try simp only [zZ] at hs_w1))
 go_ret
 exact ⟨rfl,bX⟩
theorem says_free1 (B:Nat) (h:Ok1 d) (hA:Row w w.heap.size A d.aw) (c8:Sp8 w B 0 d A ca M cm) :
  SaysN 256 #[.pointer (some ⟨B,0,none⟩)] (slotsOf d.z).toNat (fun k=>!tb d.aw k) w:=
 fun W k hb hk=>sfree1_any ca cm B k h (hA.later hb) (c8.later hb) (by have:=h.sized.slots;omega)
set_option maxHeartbeats 1000000 in
theorem sfree_any (h:Ok1 d) (hA:Row w w.heap.size A d.aw) (r:Int) (hI:IdxN (slotsOf d.z).toNat (fun k=>!tb d.aw k) r) :
  Calls Tryz.prog 225 #[spv d A ca M cm] w fun e w'=>e=.returned (.int .i64 r)∧Below w.heap.size w w':=by
 have HI:=Lib.hid hI
 have H:=Lib.hid h
 have HZ:Hid (slotsOf d.z=(((slotsOf d.z).toNat:Nat):Int)):=Lib.hid (by have:=h.sized.slots;omega)
 have b1:Below w.heap.size w (w.alloc (.cells #[.int .i64 d.f,.int .i64 d.p,.int .i64 d.z,.int .i64 d.an,.slice A d.aw.length ca,.int .i64 d.mn,.slice M d.mw.length cm,.bool d.s] 72)):=(Below.refl _ _).alloc (Nat.le_refl _) _
 have Q:=Lib.hid (says_free1 ca cm w.heap.size h (hA.later b1) (Sp8.new w d A ca M cm 72))
 have V:=Lib.hid fun hs=>swhere_any (w:=w.alloc (.cells #[.int .i64 d.f,.int .i64 d.p,.int .i64 d.z,.int .i64 d.an,.slice A d.aw.length ca,.int .i64 d.mn,.slice M d.mw.length cm,.bool d.s] 72)) (d:=d) (A:=A) (M:=M) ca cm h.sized 256 #[.pointer (some ⟨w.heap.size,0,none⟩)] _ HZ.out (fun k=>!tb d.aw k) eg_free1 hs r HI.out
 have W1:=Lib.hid (V.out Q.out)
 clear h hI V Q b1 HI HZ H
 obtain ⟨f,p,z,an,aw,mn,mw,s⟩:=d
 simp only at *
 unfold spv at W1 ⊢
 simp only at W1 ⊢
 go_enter Tryz.func225,Tryz.ntmps225
 go_wp2_with (go_at_call 255;refine W1.out.mono ?_;rintro e w1 ⟨rfl,hb_w1⟩;obtain ⟨hc_w1,hf_w1⟩:=bcell hb_w1;have hz_w1_w_0:w.heap.size < w1.heap.size:=lY hb_w1.size;have hs_w1:=hb_w1.size;(try simp only [zZ] at hs_w1))
 go_ret
 exact ⟨rfl,bX⟩
end
section
variable {w:World} {d:Sd} {A M:Option Addr} (ca cm:Nat)
set_option maxHeartbeats 1000000 in
theorem sroom1_any (size:Int) (B:Nat) (h:Ok1 d) (hA:Row w w.heap.size A d.aw) (hB:w.cell? ⟨B,0,none⟩=some (.int .i64 size)) (r:Int) (hI:IdxN (slotsOf d.z).toNat (fun k=>!tb d.aw k) r) (b:Bool) (hb:((d.z == size) && (d.s && decide (0 ≤ r)))=b) :
  Calls Tryz.prog 224 #[spv d A ca M cm,.pointer (some ⟨B,0,none⟩)] w fun e w'=>e=.returned (.bool b)∧Below w.heap.size w w':=by
 have hlt:=World.block_lt_of_cell? w _ hB
 have F:=Lib.hid fun (w:World) hA=>sfree_any (w:=w) (d:=d) (A:=A) (M:=M) ca cm h hA r hI
 clear h hI
 obtain ⟨f,p,z,an,aw,mn,mw,s⟩:=d
 simp only at *
 unfold spv at F ⊢
 simp only at F ⊢
 have k0:(w.alloc (.cells #[.int .i64 f,.int .i64 p,.int .i64 z,.int .i64 an,.slice A aw.length ca,.int .i64 mn,.slice M mw.length cm,.bool s] 72)).cell? ⟨B,0,none⟩=some (.int .i64 size):=(World.cell?_alloc_lt _ _ ⟨_,_,_⟩ hlt).trans hB
 rcases hz:(z == size) with _ | _
 ·rw [hz,Bool.false_and] at hb
  subst hb
  go_enter Tryz.func224,Tryz.ntmps224
  go_wp2
  go_ret
  exact ⟨rfl,bX⟩
 ·rw [hz,Bool.true_and] at hb
  cases s
  ·rw [Bool.false_and] at hb
   subst hb
   go_enter Tryz.func224,Tryz.ntmps224
   go_wp2
   go_ret
   exact ⟨rfl,bX⟩
  ·rw [Bool.true_and] at hb
   go_enter Tryz.func224,Tryz.ntmps224
   go_wp2_with (go_at_call 225;refine (F.out _ (hA.later bX)).mono ?_;rintro e w1 ⟨rfl,hb_w1⟩;obtain ⟨hc_w1,hf_w1⟩:=bcell hb_w1;have hz_w1_w_0:w.heap.size < w1.heap.size:=lY hb_w1.size;have hs_w1:=hb_w1.size;(try simp only [zZ] at hs_w1))
   go_ret
   exact ⟨by rw [← hb];rfl,bX⟩
end
theorem IdxN.any {n:Nat} {q:Nat → Bool} {r:Int} (h:IdxN n q r):(List.range n).any q=decide (0 ≤ r):=by
 rcases h with ⟨rfl,h⟩ | ⟨i,rfl,h2,h3,_⟩
 ·rw [show decide ((0:Int) ≤ -1)=false by decide,List.any_eq_false]
  intro k hk
  rw [h k (List.mem_range.1 hk)]
  decide
 ·rw [decide_eq_true (by omega:(0:Int) ≤ (i:Int)),List.any_eq_true]
  exact ⟨i,List.mem_range.2 h2,h3⟩
def hasRoom (size:Int) (d:Sd):Bool:=(d.z == size) && (d.s && (List.range (slotsOf d.z).toNat).any fun k=>!tb d.aw k)
theorem eg_room1:∀ args w,(callFunc 224 args).run Tryz.prog w=.ok (.enter 224 args) w:=enters_of Tryz.func224 (by kernel_rfl) rfl
def RoomE (l:List Sd) (size:Int) (x k y:Int):Prop:=(¬ OkL l∧x=0∧k=0∧y=2) ∨ (OkL l∧IdxE l (hasRoom size) (-1)∧x=0∧k=0∧y=3) ∨
 (∃ (i:Nat) (r:Int),OkL l∧IdxE l (hasRoom size) i∧IdxN (slotsOf (nth l i).z).toNat (fun k=>!tb (nth l i).aw k) r∧x=i∧k=r∧y=0)
section
variable {w:World} {A:Option Addr} {l:List Sd} (cap:Nat)
theorem says_room1 (size:Int) (B:Nat) (hok:OkL l) (hB:w.cell? ⟨B,0,none⟩=some (.int .i64 size)):Says 224 #[.pointer (some ⟨B,0,none⟩)] l (hasRoom size) w:=
 fun W i A M ca cm hb hi hA hM=>by
  obtain ⟨r,hr⟩:=IdxN.ex (slotsOf (nth l i).z).toNat fun k=>!tb (nth l i).aw k
  exact sroom1_any ca cm size B (hok.2.1 i hi) hA ((hb.cell (p:=⟨B,0,none⟩) (World.block_lt_of_cell? w _ hB)).trans hB) r hr _ (by unfold hasRoom;rw [hr.any])
set_option maxHeartbeats 2000000 in
theorem sroom_any (hr:SRow w w.heap.size A l) (hl:l.length ≤ 17592186044416) (size:Int) (x k y:Int) (hF:RoomE l size x k y) :
  Calls Tryz.prog 157 #[.slice A l.length cap,.int .i64 size] w fun e w'=>e=.returned (.tuple #[.int .i64 x,.int .i64 k,.int .i64 y])∧Below w.heap.size w w':=by
 rcases hF with ⟨h,rfl,rfl,rfl⟩ | ⟨h,hI,rfl,rfl,rfl⟩ | ⟨i,r,h,hI,hJ,rfl,rfl,rfl⟩
 ·have C:=Lib.hid fun (w:World) hr=>scheck_any (w:=w) (A:=A) (l:=l) cap hr hl 2 (.inr ⟨h,rfl⟩)
  clear h
  go_enter Tryz.func157,Tryz.ntmps157
  go_wp2_with fail
  go_at_call 217
  refine (C.out _ (hr.later bX)).mono ?_
  rintro e w1 ⟨rfl,hb_w1⟩
  obtain ⟨hc_w1,hf_w1⟩:=bcell hb_w1;have hz_w1_w_0:w.heap.size < w1.heap.size:=lY hb_w1.size;have hs_w1:=hb_w1.size;(try simp only [zZ] at hs_w1)
  go_wp2
  go_ret3
  exact ⟨rfl,bX⟩
 ·have C:=Lib.hid fun (w:World) hr=>scheck_any (w:=w) (A:=A) (l:=l) cap hr hl 0 (.inl ⟨h,rfl⟩)
  have HI:=Lib.hid hI
  have HO:=Lib.hid h
  clear h hI
  go_enter Tryz.func157,Tryz.ntmps157
  go_wp2_with fail
  go_at_call 217
  refine (C.out _ (hr.later bX)).mono ?_
  rintro e w1 ⟨rfl,hb_w1⟩
  obtain ⟨hc_w1,hf_w1⟩:=bcell hb_w1;have hz_w1_w_0:w.heap.size < w1.heap.size:=lY hb_w1.size;have hs_w1:=hb_w1.size;(try simp only [zZ] at hs_w1)
  have ka:w1.cell? ⟨w.heap.size,0,none⟩=some (.int .i64 size):=(hc_w1 _ _ lX).trans (by simp [go_sem])
  go_wp2_with fail
  go_at_call 188
  refine (sindex_any cap 224 _ (hasRoom size) eg_room1 (hr.later bX) hl (says_room1 size _ HO.out ka) (-1) HI.out).mono ?_
  rintro e w2 ⟨rfl,hb_w2⟩
  obtain ⟨hc_w2,hf_w2⟩:=bcell hb_w2;have hz_w2_w_0:w.heap.size < w2.heap.size:=lY hb_w2.size;have hs_w2:=hb_w2.size;(try simp only [zZ] at hs_w2)
  go_wp2
  go_ret3
  exact ⟨rfl,bX⟩
 ·have C:=Lib.hid fun (w:World) hr=>scheck_any (w:=w) (A:=A) (l:=l) cap hr hl 0 (.inl ⟨h,rfl⟩)
  have HI:=Lib.hid hI
  have HO:=Lib.hid h
  have hil:i < l.length:=by
   rcases hI with ⟨h1,_⟩ | ⟨j,h1,h2,_⟩
   ·omega
   ·omega
  have F:=Lib.hid fun (w:World) (A M:Option Addr) (ca cm:Nat) hA=>sfree_any (w:=w) (d:=nth l i) (A:=A) (M:=M) ca cm (h.2.1 i hil) hA k hJ
  clear h hI hJ
  go_enter Tryz.func157,Tryz.ntmps157
  go_wp2_with fail
  go_at_call 217
  refine (C.out _ (hr.later bX)).mono ?_
  rintro e w1 ⟨rfl,hb_w1⟩
  obtain ⟨hc_w1,hf_w1⟩:=bcell hb_w1;have hz_w1_w_0:w.heap.size < w1.heap.size:=lY hb_w1.size;have hs_w1:=hb_w1.size;(try simp only [zZ] at hs_w1)
  have ka:w1.cell? ⟨w.heap.size,0,none⟩=some (.int .i64 size):=(hc_w1 _ _ lX).trans (by simp [go_sem])
  go_wp2_with fail
  go_at_call 188
  refine (sindex_any cap 224 _ (hasRoom size) eg_room1 (hr.later bX) hl (says_room1 size _ HO.out ka) (i:Nat) HI.out).mono ?_
  rintro e w2 ⟨rfl,hb_w2⟩
  obtain ⟨hc_w2,hf_w2⟩:=bcell hb_w2;have hz_w2_w_0:w.heap.size < w2.heap.size:=lY hb_w2.size;have hs_w2:=hb_w2.size;(try simp only [zZ] at hs_w2)
  have hr2:SRow w2 w2.heap.size A l:=hr.later bX
  obtain ⟨b,off,rfl,hbb,hc⟩:=hr2.at_ (by omega)
  obtain ⟨Aa,ca,Am,cm,c8,ra,rm⟩:=hc i hil
  obtain ⟨d,hd⟩:∃ d,Hid (nth l i=d):=⟨_,rfl⟩
  have FF:=Lib.hid fun (w:World) hA=>F.out w Aa Am ca cm hA
  rw [hd.out] at c8 ra rm FF
  obtain ⟨c0,c1,c2,c3,c4,c5,c6,c7⟩:=id c8
  have hi0:(0:Int) ≤ (i:Int):=by omega
  have hi1:(i:Int) < (l.length:Int):=by omega
  have hi2:decide ((i:Int) < 0)=false:=decide_eq_false (by omega)
  clear hc F c8
  obtain ⟨f,p,z,an,aw,mn,mw,s⟩:=d
  simp only at *
  unfold spv at FF
  simp only at FF
  go_wp2_with (go_at_call 225;refine (FF.out _ (ra.later bX)).mono ?_;rintro e w3 ⟨rfl,hb_w3⟩;obtain ⟨hc_w3,hf_w3⟩:=bcell hb_w3;have hz_w3_w_0:w.heap.size < w3.heap.size:=lY hb_w3.size;have hs_w3:=hb_w3.size;(try simp only [zZ] at hs_w3))
  go_ret3
  exact ⟨rfl,bX⟩
end
theorem eg_drop1:∀ args w,(callFunc 268 args).run Tryz.prog w=.ok (.enter 268 args) w:=enters_of Tryz.func268 (by kernel_rfl) rfl
theorem eg_add1:∀ args w,(callFunc 260 args).run Tryz.prog w=.ok (.enter 260 args) w:=enters_of Tryz.func260 (by kernel_rfl) rfl
section
variable {w:World} {d:Sd} {A M:Option Addr} (ca cm:Nat)
theorem sdrop1_any (first:Int) (B:Nat) (hB:w.cell? ⟨B,0,none⟩=some (.int .i64 first)) :
  Calls Tryz.prog 268 #[spv d A ca M cm,.pointer (some ⟨B,0,none⟩)] w fun e w'=>e=.returned (.bool (d.f == first))∧Below w.heap.size w w':=by
 have hlt:=World.block_lt_of_cell? w _ hB
 obtain ⟨f,p,z,an,aw,mn,mw,s⟩:=d
 unfold spv
 simp only at *
 have k0:(w.alloc (.cells #[.int .i64 f,.int .i64 p,.int .i64 z,.int .i64 an,.slice A aw.length ca,.int .i64 mn,.slice M mw.length cm,.bool s] 72)).cell? ⟨B,0,none⟩=some (.int .i64 first):=(World.cell?_alloc_lt _ _ ⟨_,_,_⟩ hlt).trans hB
 go_enter Tryz.func268,Tryz.ntmps268
 go_wp2
 go_ret
 exact ⟨rfl,bX⟩
theorem sadd1_any (sf:Int) (B:Nat) (h:Ok1 d) (hB:w.cell? ⟨B,0,none⟩=some (.int .i64 sf)) :
  Calls Tryz.prog 260 #[spv d A ca M cm,.pointer (some ⟨B,0,none⟩)] w fun e w'=>e=.returned (.bool (decide (sf < d.f + d.p)))∧Below w.heap.size w w':=by
 have hp:=h.placed
 unfold Placed at hp
 have hs:=h.sized.slots
 have G:=Lib.hid fun (w:World)=>sbehind_any (w:=w) d A ca M cm (by omega) (by omega)
 have hlt:=World.block_lt_of_cell? w _ hB
 clear h hp hs
 obtain ⟨f,p,z,an,aw,mn,mw,s⟩:=d
 simp only at *
 unfold spv at G ⊢
 simp only at G ⊢
 have k0:(w.alloc (.cells #[.int .i64 f,.int .i64 p,.int .i64 z,.int .i64 an,.slice A aw.length ca,.int .i64 mn,.slice M mw.length cm,.bool s] 72)).cell? ⟨B,0,none⟩=some (.int .i64 sf):=(World.cell?_alloc_lt _ _ ⟨_,_,_⟩ hlt).trans hB
 go_enter Tryz.func260,Tryz.ntmps260
 go_wp2_with fail
 go_region_held3 (fun X:World=>X.cell? ⟨w.heap.size,0,none⟩=some (.int .i64 f)∧X.cell? ⟨w.heap.size,1,none⟩=some (.int .i64 p)∧X.cell? ⟨w.heap.size,2,none⟩=some (.int .i64 z)∧X.cell? ⟨w.heap.size,3,none⟩=some (.int .i64 an)∧X.cell? ⟨w.heap.size,4,none⟩=some (.slice A aw.length ca)∧X.cell? ⟨w.heap.size,5,none⟩=some (.int .i64 mn)∧X.cell? ⟨w.heap.size,6,none⟩=some (.slice M mw.length cm)∧X.cell? ⟨w.heap.size,7,none⟩=some (.bool s)∧X.cell? ⟨B,0,none⟩=some (.int .i64 sf))
  ((refine ⟨?_,?_,?_,?_,?_,?_,?_,?_,?_⟩ <;> first | assumption | (simp [go_sem];done)))
  ((go_at_call 252;refine (G.out _).mono ?_;rintro e w1 ⟨rfl,hb_w1⟩;have m0:w1.cell? ⟨w.heap.size,0,none⟩=some (.int .i64 f):=(hb_w1.cell lX).trans kY;have m1:w1.cell? ⟨w.heap.size,1,none⟩=some (.int .i64 p):=(hb_w1.cell lX).trans kY;have m2:w1.cell? ⟨w.heap.size,2,none⟩=some (.int .i64 z):=(hb_w1.cell lX).trans kY;have m3:w1.cell? ⟨w.heap.size,3,none⟩=some (.int .i64 an):=(hb_w1.cell lX).trans kY;have m4:w1.cell? ⟨w.heap.size,4,none⟩=some (.slice A aw.length ca):=(hb_w1.cell lX).trans kY;have m5:w1.cell? ⟨w.heap.size,5,none⟩=some (.int .i64 mn):=(hb_w1.cell lX).trans kY;have m6:w1.cell? ⟨w.heap.size,6,none⟩=some (.slice M mw.length cm):=(hb_w1.cell lX).trans kY;have m7:w1.cell? ⟨w.heap.size,7,none⟩=some (.bool s):=(hb_w1.cell lX).trans kY;have m8:w1.cell? ⟨B,0,none⟩=some (.int .i64 sf):=(hb_w1.cell lX).trans kY))
 all_goals
  go_wp2
  go_ret
  exact ⟨rfl,bX⟩
end
section
variable {w:World}
theorem xmany_any {p z:Int} (h:Sized p z):Calls Tryz.prog 161 #[.int .i64 z] w fun e w'=>e=.returned (.int .i64 (slotsOf z))∧w=w':=by
 rcases h with ⟨rfl | rfl | rfl | rfl,rfl⟩ | ⟨rfl,h1,h2⟩
 all_goals
  go_enter Tryz.func161,Tryz.ntmps161
  go_wp2
  go_ret
  exact ⟨rfl,rfl⟩
theorem xat_any (d:Sd) (A:Option Addr) (ca:Nat) (M:Option Addr) (cm:Nat) (k:Int) (h0:0 ≤ d.f) (h1:d.f ≤ 1024) (m:Int) (hm:k * d.z=m) (hm0:0 ≤ m) (hm1:m ≤ 1600) :
  Calls Tryz.prog 162 #[spv d A ca M cm,.int .i64 k] w fun e w'=>e=.returned (.int .u64 (d.f * 16 + m))∧Below w.heap.size w w':=by
 obtain ⟨f,p',z,an,aw,mn,mw,s⟩:=d
 simp only at h0 h1 hm
 unfold spv
 simp only
 have hmw:IntKind.i64.wrap m=m:=by rw [IntWalk.i64_in _ (by omega)]
 have hmu:IntKind.i64.wrap (f * 16 + m)=f * 16 + m:=by rw [IntWalk.i64_in _ (by omega)]
 have hms:IntKind.u64.wrap (f * 16 + m)=f * 16 + m:=by rw [IntKind.wrap_u64];omega
 go_enter Tryz.func162,Tryz.ntmps162
 go_wp2
 go_ret
 exact ⟨rfl,bX⟩
end
end Go.Proofs.YtafpkaifaccehaaGreatDoor
