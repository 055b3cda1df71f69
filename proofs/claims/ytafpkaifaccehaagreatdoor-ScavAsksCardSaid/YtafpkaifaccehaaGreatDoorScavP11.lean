/- Parts of the proof. -/
import Derived.Test.YtafpkaifaccehaaGreatDoorScavP10
import Derived.RangeFuncNested
import Derived.RangeFuncBound
import Derived.RangeFuncCalls
import Derived.RangeFuncLeaves
import Derived.Shelf.Abstract
import Derived.Shelf.RegionOpen
import Derived.OwnWalkIn
import Derived.TacticsInMore
import Derived.LoopNIn
import Derived.LoopIn
set_option maxRecDepth 100000
set_option linter.unusedVariables false
set_option linter.unusedSimpArgs false
namespace Go.Proofs.YtafpkaifaccehaaGreatDoor
open Go.RowKit Go.Shelf
attribute [local go_sem] Oper.semAt_some
structure Kc (g:Nat) (W W':World):Prop where
 size:W.heap.size ≤ W'.heap.size
 cell:∀ (a:Addr) (v:Value),a.block ≠ g → W.cell? a=some v → W'.cell? a=some v
theorem Kc.refl (g:Nat) (W:World):Kc g W W:=⟨Nat.le_refl _,fun _ _ _ h=>h⟩
theorem Kc.trans {g:Nat} {A B C:World} (h:Kc g A B) (k:Kc g B C):Kc g A C:=⟨Nat.le_trans h.size k.size,fun a v hn hc=>k.cell a v hn (h.cell a v hn hc)⟩
theorem Kc.of_below {g:Nat} {W W':World} (h:Below W.heap.size W W'):Kc g W W':=
 ⟨h.size,fun a v _ hc=>(World.cell?_of_block (h.block _ (World.block_lt_of_cell? W a hc))).trans hc⟩
theorem Kc.of_grown {g:Nat} {W W':World} (h:W.grownBy W' (some g)):Kc g W W':=
 ⟨h.size,fun a v hn hc=>(World.cell?_of_block (h.block _ (World.block_lt_of_cell? W a hc) (fun e=>hn (by injection e)))).trans hc⟩
theorem grown_none {W W':World} (h:Below W.heap.size W W'):W.grownBy W' none:=⟨h.os,h.tape,h.output,h.size,fun k hk _=>h.block k hk⟩
theorem grown_some {W W':World} (g:Nat) (h:Below W.heap.size W W'):W.grownBy W' (some g):=⟨h.os,h.tape,h.output,h.size,fun k hk _=>h.block k hk⟩
theorem Row.kc {W W':World} {g:Nat} {A:Option Addr} {ws:List Nat} (h:Row W g A ws) (k:Kc g W W'):Row W' g A ws:=
 ⟨h.words,fun hl=>by
  obtain ⟨b,off,e,hb,hc⟩:=h.at_ hl
  exact ⟨b,off,e,hb,fun i hi=>k.cell _ _ (by show b ≠ g;omega) (hc i hi)⟩⟩
theorem Sp8.kc {W W':World} {g b o ca cm:Nat} {d:Sd} {A M:Option Addr} (h:Sp8 W b o d A ca M cm) (k:Kc g W W') (hb:b ≠ g):Sp8 W' b o d A ca M cm:=
 ⟨k.cell _ _ hb h.c0,k.cell _ _ hb h.c1,k.cell _ _ hb h.c2,k.cell _ _ hb h.c3,k.cell _ _ hb h.c4,k.cell _ _ hb h.c5,k.cell _ _ hb h.c6,k.cell _ _ hb h.c7⟩
theorem SRow.kc {W W':World} {g:Nat} {A:Option Addr} {l:List Sd} (h:SRow W g A l) (k:Kc g W W'):SRow W' g A l:=
 ⟨fun hl=>by
  obtain ⟨b,off,e,hb,hc⟩:=h.at_ hl
  refine ⟨b,off,e,hb,fun i hi=>?_⟩
  obtain ⟨Aa,ca,Am,cm,h1,h2,h3⟩:=hc i hi
  exact ⟨Aa,ca,Am,cm,h1.kc k (by omega),h2.kc k,h3.kc k⟩⟩
theorem Hb.kc {W W':World} {g b na ca nu cu nv cv:Nat} {n:Int} {A U V:Option Addr} (h:Hb W b A na ca n U nu cu V nv cv) (k:Kc g W W') (hb:b ≠ g):Hb W' b A na ca n U nu cu V nv cv:=
 ⟨k.cell _ _ hb h.c0,k.cell _ _ hb h.c1,k.cell _ _ hb h.c2,k.cell _ _ hb h.c3⟩
structure Ki (g:Nat) (W W':World):Prop where
 size:W.heap.size ≤ W'.heap.size
 low:∀ (a:Addr) (v:Value),a.block < g → W.cell? a=some v → W'.cell? a=some v
 typ:∀ (k:Nat) (c:Array Value) (ty:TypeId),(ty=112 ∨ ty=26) → k ≠ g → W.heap[k]?=some (.cells c ty (0,0)) → W'.heap[k]?=some (.cells c ty (0,0))
theorem Ki.refl (g:Nat) (W:World):Ki g W W:=⟨Nat.le_refl _,fun _ _ _ h=>h,fun _ _ _ _ _ h=>h⟩
theorem Ki.trans {g:Nat} {A B C:World} (h:Ki g A B) (k:Ki g B C):Ki g A C:=⟨Nat.le_trans h.size k.size,fun a v hn hc=>k.low a v hn (h.low a v hn hc),fun b c ty ht hn hc=>k.typ b c ty ht hn (h.typ b c ty ht hn hc)⟩
theorem Ki.of_grown {g:Nat} {W W':World} (h:W.grownBy W' (some g)):Ki g W W':=
 ⟨h.size,fun a v hn hc=>(World.cell?_of_block (h.block _ (World.block_lt_of_cell? W a hc) (fun e=>by injection e with e;omega))).trans hc,
  fun k c ty _ hn hc=>(h.block k (heap_lt hc) (fun e=>hn (by injection e))).trans hc⟩
theorem Ki.of_below {g:Nat} {W W':World} (h:Below W.heap.size W W'):Ki g W W':=Ki.of_grown (grown_some g h)
theorem Ki.putObj {g:Nat} {w:World} (W:World) (l:Nat) (o o':Obj) (_:w.heap.size ≤ l) (h:W.heap[l]?=some o) (hc:o.isCells=false) (_:o.isWalk=false):Ki g W (W.putObj l o'):=
 ⟨(grownBy_putObj' W l o').size,fun a v _ hv=>cell_kept hv (grownBy_putObj' W l o') (fun r e=>by cases e;exact ⟨_,h,hc⟩),
  fun k c ty _ _ hk=>((grownBy_putObj' W l o').block k (heap_lt hk) (fun e=>by
   injection e with e
   subst e
   rw [h] at hk
   injection hk with hk
   rw [hk] at hc
   cases hc)).trans hk⟩
theorem Row.ki {W W':World} {g:Nat} {A:Option Addr} {ws:List Nat} (h:Row W g A ws) (k:Ki g W W'):Row W' g A ws:=
 ⟨h.words,fun hl=>by
  obtain ⟨b,off,e,hb,hc⟩:=h.at_ hl
  exact ⟨b,off,e,hb,fun i hi=>k.low _ _ hb (hc i hi)⟩⟩
theorem Sp8.ki {W W':World} {g b o ca cm:Nat} {d:Sd} {A M:Option Addr} (h:Sp8 W b o d A ca M cm) (k:Ki g W W') (hb:b < g):Sp8 W' b o d A ca M cm:=
 ⟨k.low _ _ hb h.c0,k.low _ _ hb h.c1,k.low _ _ hb h.c2,k.low _ _ hb h.c3,k.low _ _ hb h.c4,k.low _ _ hb h.c5,k.low _ _ hb h.c6,k.low _ _ hb h.c7⟩
theorem SRow.ki {W W':World} {g:Nat} {A:Option Addr} {l:List Sd} (h:SRow W g A l) (k:Ki g W W'):SRow W' g A l:=
 ⟨fun hl=>by
  obtain ⟨b,off,e,hb,hc⟩:=h.at_ hl
  refine ⟨b,off,e,hb,fun i hi=>?_⟩
  obtain ⟨Aa,ca,Am,cm,h1,h2,h3⟩:=hc i hi
  exact ⟨Aa,ca,Am,cm,h1.ki k hb,h2.ki k,h3.ki k⟩⟩
theorem cells4_of {w:World} {b:Nat} {v0 v1 v2 v3:Value} {ty:TypeId} (h:w.heap[b]?=some (.cells #[v0,v1,v2,v3] ty (0,0))):w.cell? ⟨b,0,none⟩=some v0∧w.cell? ⟨b,1,none⟩=some v1∧w.cell? ⟨b,2,none⟩=some v2∧w.cell? ⟨b,3,none⟩=some v3:=
 ⟨cell_of_row w b 0 _ _ (0,0) h,cell_of_row w b 1 _ _ (0,0) h,cell_of_row w b 2 _ _ (0,0) h,cell_of_row w b 3 _ _ (0,0) h⟩
theorem cells2_of {w:World} {b:Nat} {v0 v1:Value} {ty:TypeId} (h:w.heap[b]?=some (.cells #[v0,v1] ty (0,0))):w.cell? ⟨b,0,none⟩=some v0∧w.cell? ⟨b,1,none⟩=some v1:=
 ⟨cell_of_row w b 0 _ _ (0,0) h,cell_of_row w b 1 _ _ (0,0) h⟩
structure Hv where
 A:Option Addr
 ca:Nat
 U:Option Addr
 cu:Nat
 V:Option Addr
 cv:Nat
structure HM (w:World) (B:Nat) (v:Hv) (h:Hp):Prop where
 a:Row w B v.A h.ws
 u:Row w B v.U h.us
 v:SRow w B v.V h.l
theorem HM.kc {W W':World} {g:Nat} {v:Hv} {h:Hp} (m:HM W g v h) (k:Kc g W W'):HM W' g v h:=⟨m.a.kc k,m.u.kc k,m.v.kc k⟩
theorem HM.below {w w':World} {B:Nat} {v:Hv} {h:Hp} (m:HM w B v h) (hb:Below B w w'):HM w' B v h:=⟨m.a.below hb,m.u.below hb,m.v.below hb⟩
theorem HM.more {w:World} {B B':Nat} {v:Hv} {h:Hp} (m:HM w B v h) (hB:B ≤ B'):HM w B' v h:=⟨m.a.more hB,m.u.more hB,m.v.more hB⟩
theorem HM.later {w w':World} {v:Hv} {h:Hp} (m:HM w w.heap.size v h) (hb:Below w.heap.size w w'):HM w' w'.heap.size v h:=(m.below hb).more hb.size
theorem HM.ki {W W':World} {g:Nat} {v:Hv} {h:Hp} (m:HM W g v h) (k:Ki g W W'):HM W' g v h:=⟨m.a.ki k,m.u.ki k,m.v.ki k⟩
def hpV (v:Hv) (h:Hp):Value:=hpv v.A h.ws.length v.ca h.n v.U h.us.length v.cu v.V h.l.length v.cv
def HbV (w:World) (b:Nat) (v:Hv) (h:Hp):Prop:=Hb w b v.A h.ws.length v.ca h.n v.U h.us.length v.cu v.V h.l.length v.cv
abbrev CurO (h:Hp):={ o:Ob // o ∈ cursH h }
theorem zcurrent_any (v:Hv) (h:Hp) (w:World) :
  Calls Tryz.prog 186 #[hpV v h] w fun e w'=>e=.returned (.func (.func 237) #[] #[.pointer (some ⟨w.heap.size,0,none⟩)])∧w'=w.alloc (.cells #[.slice v.A h.ws.length v.ca,.int .i64 h.n,.slice v.U h.us.length v.cu,.slice v.V h.l.length v.cv] 112):=by
 have hmf:∀ (fn:Fn) (first cap:Array Value) (w:World),(Instr.makeFunc fn first cap).run Tryz.prog w=.ok (.func fn first cap) w:=fun _ _ _ _=>rfl
 unfold hpV hpv
 go_enter Tryz.func186,Tryz.ntmps186
 go_wp2
 go_ret
 exact ⟨rfl,rfl⟩
def SlotSt (h:Hp) (i M:Nat) (os:List Ob) (s y:Int):Prop:=
 (∃ k:Nat,s=(k:Int)∧y=0∧k < M∧tb (curW (nth h.l i)) k=true∧os=curT h.ws h.l i k) ∨ (s=0∧y=3∧os=curT h.ws h.l i M)
theorem slotSt_of {h:Hp} {i M k:Nat} {os:List Ob} {s y:Int} (hF:FirstP (curW (nth h.l i)) true (k:Int) (M:Int) s y) (hkM:k ≤ M) (ho:os=curT h.ws h.l i k):SlotSt h i M os s y:=by
 rcases hF with ⟨rfl,h1,h2,h3,h4⟩ | ⟨rfl,rfl,h1⟩
 ·obtain ⟨q,rfl⟩:∃ q:Nat,s=(q:Int):=⟨s.toNat,by omega⟩
  refine .inl ⟨q,rfl,rfl,by omega,by simpa using h3,?_⟩
  rw [ho]
  refine (curT_skip _ _ _ _ (by omega) fun j e1 e2=>?_).symm
  have:=h4 j (by omega) (by omega)
  simpa using this
 ·refine .inr ⟨rfl,rfl,?_⟩
  rw [ho]
  refine (curT_skip _ _ _ _ hkM fun j e1 e2=>?_).symm
  have:=h1 j (by omega) (by omega)
  simpa using this
set_option maxHeartbeats 4000000 in
theorem zcur1_in (n:Nat) (hn:1 ≤ n) (g B l:Nat) (v:Hv) (h:Hp) (hw:h.ws.length ≤ 16384) (hok:OkL h.l) (J Jx:List (CurO h) → World → Prop) (W:World)
  (hJ:AbidesFrom W.heap.size J) (hJx:AbidesFrom W.heap.size Jx)
  (hY:∀ pre x W1,J pre W1 → pre.length < (cursH h).length → YieldAt Fence.wide (n - 1) Tryz.prog l #[obV x.1] W1 fun e W'=>
   (e=.returned (.bool true)∧J (pre ++ [x]) W'∧Ki g W1 W') ∨ (e=.returned (.bool false)∧Jx (pre ++ [x]) W'))
  (hB:W.heap[B]?=some (.cells #[.slice v.A h.ws.length v.ca,.int .i64 h.n,.slice v.U h.us.length v.cu,.slice v.V h.l.length v.cv] 112 (0,0))) (hBg:B ≠ g) (hgW:g < W.heap.size) (hM:HM W g v h) (h0:J [] W) :
  CallsIn Fence.wide n Tryz.prog 237 #[.func (.yield l) #[] #[],.pointer (some ⟨B,0,none⟩)] W fun e W'=>(∃ r,e=.returned r) ∧
   ((∃ xs:List (CurO h),xs.map (·.1)=cursH h∧J xs W') ∨ (∃ pre:List (CurO h),True∧Jx pre W')):=by
 have hl256:=hok.1
 have HOK:=Lib.hid hok
 have HCU:=Lib.hid fun (w:World) (d:Sd) A ca M cm=>zcurs_any (w:=w) (d:=d) (A:=A) (M:=M) ca cm
 have HFI:=Lib.hid fun (w:World) (n:Int) A (ws:List Nat) cap a hr hR h0 h1=>first_in (w:=w) (n:=n) (A:=A) (ws:=ws) cap a true hr hR h0 h1
 have HOB:=Lib.hid fun (w:World) hr hv i k hi hk=>zobject_any (w:=w) (n:=h.n) (A:=v.A) (U:=v.U) (V:=v.V) (ws:=h.ws) (l:=h.l) v.ca h.us.length v.cu v.cv hr hv hw hok i k hi hk
 have HB:=Lib.hid hB
 have HM:=Lib.hid hM
 have hBl:B < W.heap.size:=heap_lt hB
 have HSK:=Lib.hid fun i k j hkj hc=>curT_skip h.ws h.l i k (j:=j) hkj hc
 have HHI:=Lib.hid fun i k ha hc=>curT_hit h.ws h.l i k ha hc
 have HNE:=Lib.hid fun i=>curT_next h.ws h.l i
 have HPR:=Lib.hid fun i k (hi:i < h.l.length) hk=>curT_pre h (i:=i) (k:=k) hi hk
 have HEN:=Lib.hid (curT_end h)
 unfold hpv at HOB
 refine callsIn_of_wp Tryz.func237 rfl trivial ?_ rfl
 simp only [Tryz.ntmps237,List.size_toArray,List.length_cons,List.length_nil,Nat.reduceAdd,Nat.reduceSub,Array.replicate_succ,Array.replicate_zero,List.push_toArray,List.append_toArray,List.nil_append,List.cons_append]
 obtain ⟨m0,m1,m2,m3⟩:=cells4_of hB
 clear hok hw hM hB
 gi_wp2
 clear m0 m1 m2 m3
 gi_loopw [12] (fun ii wr=>∃ (i:Nat) (pre:List (CurO h)),ii=.int .i64 (i:Nat)∧i ≤ h.l.length∧Hid (pre.map (·.1)=curT h.ws h.l i 0)∧J pre wr∧Ki g W wr) (fun ii _=>h.l.length - (intOf ii).toNat)
 case atStart=>exact ⟨0,[],rfl,Nat.zero_le _,Lib.hid rfl,h0,Ki.refl _ _⟩
 case round=>
  obtain ⟨i,pre,rfl,hi,hpre,hJs,hk_wr⟩:=hrel
  have hsr:=hk_wr.size
  by_cases hlt:i < h.l.length
  ·have HMr:=Lib.hid (HM.out.ki hk_wr)
   obtain ⟨bb,off,hV,hbb,hc⟩:=HMr.out.v.at_ (by omega)
   obtain ⟨Aa,caa,Am,cam,c8,ra,rm⟩:=hc i hlt
   have ok:=HOK.out.at_ hlt
   obtain ⟨N1,N8,HN⟩:=ok.slK
   have hRc:Hid (Right (if (nth h.l i).s then (nth h.l i).an else (nth h.l i).mn) (curW (nth h.l i))):=Lib.hid (by
    unfold curW
    split
    ·exact ok.a
    ·exact ok.m)
   have hrc:Hid (Row wr g (if (nth h.l i).s then Aa else Am) (curW (nth h.l i))):=Lib.hid (by
    unfold curW
    split
    ·exact ra
    ·exact rm)
   have hnn:Hid ((if (nth h.l i).s then (nth h.l i).an else (nth h.l i).mn)=((slN (nth h.l i):Nat):Int)):=Lib.hid (by
    rw [HN]
    split
    ·exact ok.an
    ·exact ok.mn)
   have HCUd:=Lib.hid fun (w:World)=>HCU.out w (nth h.l i) Aa caa Am cam
   have hSub:=Lib.hid fun k (hk:k < slN (nth h.l i)) hc=>ok.cur_sub (k:=k) hk hc
   have HFId:=Lib.hid fun (w:World) hr a h0 h1=>HFI.out w ((slN (nth h.l i):Nat):Int) (if (nth h.l i).s then Aa else Am) (curW (nth h.l i)) (if (nth h.l i).s then caa else cam) a hr (by rw [← hnn.out];exact hRc.out) h0 h1
   rw [hnn.out] at HCUd
   clear hRc hnn ok HN ra rm hc
   generalize (if (nth h.l i).s then Aa else Am)=C at *
   generalize (if (nth h.l i).s then caa else cam)=cc at *
   obtain ⟨M,hM⟩:∃ M,Hid (slN (nth h.l i)=M):=⟨_,rfl⟩
   rw [hM.out] at N1 N8 HCUd HFId
   obtain ⟨L,hL⟩:∃ L,Hid ((curW (nth h.l i)).length=L):=⟨_,rfl⟩
   rw [hL.out] at HCUd HFId
   have i0:(0:Int) ≤ (i:Int):=by omega
   have i1:(i:Int) < (h.l.length:Int):=by omega
   obtain ⟨c0,c1,c2,c3,c4,c5,c6,c7⟩:=id c8
   have hBr:B < wr.heap.size:=by omega
   have hgr:g < wr.heap.size:=by omega
   rw [hV] at HOB ⊢
   unfold spv at HCUd
   clear c8
   gi_wp2_with fail
   refine ⟨trivial,?_⟩
   gi_at_call 238
   refine (callsIn_wide.2 (HCUd.out _)).mono ?_
   rintro e w1 ⟨rfl,hb_w1⟩
   have hb1:Below wr.heap.size wr w1:=bX
   have hs1:=hb1.size
   clear c0 c1 c2 c3 c4 c5 c6 c7 hb_w1
   gi_wp2_with fail
   refine ⟨trivial,?_⟩
   gi_at_call 206
   refine (callsIn_wide.2 (HFId.out _ (((hrc.out.ki (Ki.of_below hb1)).below (Below.alloc (Below.refl g _) lX _)).more lX) 0 (by omega) (by omega))).mono ?_
   rintro e w2 ⟨⟨s0,y0,rfl,hF0⟩,hb_w2⟩
   obtain ⟨B5,hB5⟩:∃ B5,w1.heap.size=B5:=⟨_,rfl⟩
   rw [hB5]
   have q0:w2.heap[B5]?=some (.cells #[.int .i64 (M:Nat),.slice C L cc] 26 (0,0)):=(hb_w2.block B5 (by rw [World.size_alloc];omega)).trans (by rw [← hB5];exact heap_alloc_new _ _)
   have hb2:Below wr.heap.size wr w2:=bX
   have hJ2:J pre w2:=hJ pre wr w2 none hJs (grown_none hb2) (fun r e=>(by cases e))
   have hk2:Ki g wr w2:=Ki.of_below hb2
   have hS0:Hid (SlotSt h i M (pre.map (·.1)) s0 y0):=Lib.hid (slotSt_of hF0 (Nat.zero_le _) hpre.out)
   have hB5g:B5 ≠ g:=by omega
   clear hb2 hb_w2 hF0 hB5 hs1 hb1 hJs hpre
   generalize wr=wA at *
   gi_wp2
   gi_loopw [6,7] (fun sv yv wr=>∃ (s y:Int) (pre:List (CurO h)),sv=.int .i64 s∧yv=.int .i64 y∧Hid (SlotSt h i M (pre.map (·.1)) s y)∧J pre wr∧Ki g wA wr∧wr.heap[B5]?=some (.cells #[.int .i64 (M:Nat),.slice C L cc] 26 (0,0))) (fun sv yv _=>if intOf yv=0 then 100 - (intOf sv).toNat else 0)
   case atStart=>exact ⟨s0,y0,pre,rfl,rfl,hS0,hJ2,hk2,q0⟩
   case round=>
    clear q0 hk2 hJ2 hS0
    obtain ⟨s1,y1,pre1,rfl,rfl,hS,hJs,hkA,q0⟩:=hrel
    have hk1:=hk_wr.trans hkA
    have hsr1:=hk1.size
    have hBr1:B < wr.heap.size:=by omega
    have hgr1:g < wr.heap.size:=by omega
    have hB5r:=heap_lt q0
    rcases hS.out with ⟨k,rfl,rfl,hkM,hbit,hpre⟩ | ⟨rfl,rfl,hpre⟩
    ·have hM1:=HM.out.ki hk1
     have hhit:=HHI.out i k (hSub.out k (by rw [hM.out];exact hkM) hbit) hbit
     have hle:=HPR.out i (k + 1) hlt (by rw [hM.out];exact hkM)
     rw [hhit] at hle
     have hx:obAt h.ws (nth h.l i) i k ∈ cursH h:=hle.subset (by simp)
     have hlen:pre1.length < (cursH h).length:=by
      have:=hle.length_le
      rw [List.length_append,← hpre,List.length_map] at this
      simp only [List.length_cons,List.length_nil] at this
      omega
     obtain ⟨m0,m1,m2,m3⟩:=cells4_of (hk1.typ B _ _ (.inl rfl) hBg HB.out)
     have HOBk:=Lib.hid (fun (w:World) hr hv=>HOB.out w hr hv i k hlt (by rw [hM.out];exact hkM))
     rw [hV] at m3
     have hrA:=hM1.a
     have hrV:=hM1.v
     rw [hV] at hrV
     have HX:Hid (curT h.ws h.l i (k + 1)=curT h.ws h.l i k ++ [obAt h.ws (nth h.l i) i k]):=Lib.hid hhit
     have HPQ:Hid (pre1.map (·.1)=curT h.ws h.l i k):=Lib.hid hpre
     clear hhit hle hpre hM1 hbit
     obtain ⟨o,ho⟩:∃ o,Hid (obAt h.ws (nth h.l i) i k=o):=⟨_,rfl⟩
     rw [ho.out] at HX hx HOBk
     gi_wp2_with fail
     refine ⟨trivial,?_⟩
     gi_at_call 239
     refine (callsIn_wide.2 (HOBk.out _ (hrA.more (by omega)) (hrV.more (by omega)))).mono ?_
     rintro e w3 ⟨rfl,hb_w3⟩
     have hs3:=hb_w3.size
     have hJ3:J pre1 w3:=hJ pre1 wr w3 none hJs (grown_none hb_w3) (fun r e=>(by cases e))
     obtain ⟨fn,tmps,assign,body,hy,hR⟩:=hY pre1 ⟨o,hx⟩ w3 hJ3 hlen
     dsimp only at hy
     clear m0 m1 m2 m3
     gi_wp2
     refine hR.mono ?_
     rintro e W3 (⟨rfl,hJ4,hk4⟩ | ⟨rfl,hJx4⟩)
     ·have hk5:Ki g wr W3:=(Ki.of_below hb_w3).trans hk4
      have hs4:=hk4.size
      have pq:=hk5.typ _ _ _ (.inr rfl) hB5g q0
      obtain ⟨p0,p1⟩:=cells2_of pq
      have hw1:IntKind.i64.wrap ((k:Int) + 1)=((k + 1:Nat):Int):=by rw [IntKind.wrap_i64];omega
      clear q0
      have HW1:=Lib.hid hw1
      gi_wp2_with fail
      try simp only [HW1.out]
      refine ⟨trivial,?_⟩
      gi_at_call 206
      refine (callsIn_wide.2 (HFId.out _ ((hrc.out.ki (hkA.trans hk5)).more (by omega)) ((k + 1:Nat):Int) (by omega) (by omega))).mono ?_
      rintro e w5 ⟨⟨s2,y2,rfl,hF2⟩,hb_w5⟩
      have hs5:=hb_w5.size
      have hJ5:J (pre1 ++ [⟨o,hx⟩]) w5:=hJ _ W3 w5 none hJ4 (grown_none hb_w5) (fun r e=>(by cases e))
      have hk6:Ki g wA w5:=(hkA.trans hk5).trans (Ki.of_below hb_w5)
      have hk7:=Ki.of_below (g:=g) hb_w5
      have hS1:Hid (SlotSt h i M ((pre1 ++ [(⟨o,hx⟩:CurO h)]).map (·.1)) s2 y2):=Lib.hid (slotSt_of hF2 (by omega) (by rw [HX.out,List.map_append,HPQ.out];rfl))
      have p2:=hk7.typ _ _ _ (.inr rfl) hB5g pq
      have HF:Hid (FirstP (curW (nth h.l i)) true ((k + 1:Nat):Int) (M:Int) s2 y2):=Lib.hid hF2
      clear hF2
      gi_wp2
      go_roundw
      case rel=>exact ⟨s2,y2,pre1 ++ [⟨o,hx⟩],rfl,rfl,hS1,hJ5,hk6,p2⟩
      case measure=>
       rcases HF.out with ⟨rfl,e1,e2,_,_⟩ | ⟨rfl,rfl,_⟩
       ·simp [intOf];omega
       ·simp [intOf];omega
     ·gi_wp2
      refine bodyPost_ret (results_none rfl _ _ _) rfl ?_
      exact ⟨⟨_,rfl⟩,.inr ⟨_,trivial,hJx4⟩⟩
    ·gi_wp2
     go_roundw
     case rel=>exact ⟨i + 1,pre1,by go_num,by omega,Lib.hid (by rw [hpre,← hM.out,HNE.out]),hJs,hk1⟩
     case measure=>simp [intOf];omega
  ·obtain rfl:i=h.l.length:=by omega
   gi_wp2
   go_end0
   exact ⟨⟨_,rfl⟩,.inl ⟨pre,by rw [hpre.out,HEN.out],hJs⟩⟩
theorem zcur_stops (n:Nat) (hn:1 ≤ n) (g B:Nat) (v:Hv) (h:Hp) (hw:h.ws.length ≤ 16384) (hok:OkL h.l) (w:World) (hB:w.heap[B]?=some (.cells #[.slice v.A h.ws.length v.ca,.int .i64 h.n,.slice v.U h.us.length v.cu,.slice v.V h.l.length v.cv] 112 (0,0))) (hBg:B ≠ g) (hg:g < w.heap.size) (hM:HM w g v h) :
  SeqStopsK Fence.wide n Tryz.prog 237 #[.pointer (some ⟨B,0,none⟩)] (fun x:CurO h=>#[obV x.1]) (Ki g) (fun xs=>xs.map (·.1)=cursH h) (fun _=>True) (cursH h).length w:=fun l J Jx W hW hJ hJx hY h0=>
 zcur1_in n hn g B l v h hw hok J Jx W hJ hJx hY ((hW.block B (heap_lt hB)).trans hB) hBg (by have:=hW.size;omega) (hM.ki (Ki.of_below hW)) h0
end Go.Proofs.YtafpkaifaccehaaGreatDoor
namespace Go.Proofs.YtafpkaifaccehaaGreatDoor
open Go.RowKit Go.Shelf
def RegAny (ops:Array Oper) (Q:Exit → Act → World → Prop) (a:Act) (w:World):Prop:=∀ t,wpOps Tryz.prog ops Q (Region.schedule (Tryz.prog.follows .mixedOrders) ops t) a { w with drawn:=w.drawn + 1 }
theorem regAny_held {ops:Array Oper} {Q:Exit → Act → World → Prop} {S:World → Prop} {a:Act} {w:World} (hm:Tryz.prog.follows .mixedOrders=true) (hS:S w.drew)
  (h:S w.drew → wpAnyH Tryz.prog .any ops Q S ops.size (Array.replicate ops.size false) a w.drew):RegAny ops Q a w:=fun t=>by
 simp only [Region.schedule,hm,Bool.true_or,if_true]
 exact wpAny_sound ops.size t _ a _ (wpAny_of_held _ _ _ _ (h hS))
theorem RegAny.wp {ops:Array Oper} {Q:Exit → Act → World → Prop} {a:Act} {w:World} (h:RegAny ops Q a w) (id:Nat):(Code.region id ops true).wp Tryz.prog Q a w:=wp_region_draw h
def NoDefer (ops:Array Oper):Prop:=∀ (i:Nat) (o:Oper),ops[i]?=some o → ∀ c,o.op ≠ .defer c
theorem uponIn_of {l n:Nat} {o:Oper} {a:Act} {next next':Act → World → Prop} {Q:Exit → Act → World → Prop} (hn:∀ a w,next a w → next' a w) (r:Result Next) (h:o.upon Tryz.prog a next Q r) :
  o.uponIn (Fence.wide.inRound l) n Tryz.prog a next' Q r:=by
 match r,h with
 | .ok (.value v) w',h=>exact hn _ _ h
 | .ok .skip w',h=>exact hn _ _ h
 | .ok (.defer d) w',h=>exact hn _ _ h
 | .ok (.enter f args) w',h=>
  refine ⟨fun e=>(by cases e),CallsIn.inRound l (callsIn_wide.2 (Calls.mono h fun e w'' hh=>?_))⟩
  match e,hh with
  | .returned v,hh=>exact hn _ _ hh
  | .panicked c,hh=>exact hh
  | .outgrown,hh=>exact hh
 | .ok (.row row args) w',h=>
  refine ⟨fun e=>(by cases e),fun c cs _=>?_⟩
  obtain ⟨v,w'',h1,h2⟩:=h c cs
  exact ⟨v,w'',hn _ _ h1,stepsIn_wide.2 h2⟩
 | .halt (.panic v) w',h=>exact h
theorem wpOpsIn_of {ops:Array Oper} (hnd:NoDefer ops) {Q:Exit → Act → World → Prop} (hQ:¬ LetsOut Q) {l n:Nat}:∀ (sched:List Nat) (a:Act) (w:World),wpOps Tryz.prog ops Q sched a w → wpOpsIn (Fence.wide.inRound l) n Tryz.prog ops Q sched a w:=by
 intro sched
 induction sched with
 | nil=>intro a w h;exact h
 | cons i rest ih=>
  intro a w h
  unfold wpOps at h
  unfold wpOpsIn
  rcases ho:ops[i]? with _ | o
  ·simp only [ho] at h ⊢
   exact ih a w h
  ·simp only [ho] at h ⊢
   split
   ·rename_i hw
    rw [if_pos hw] at h
    rcases h with h | ⟨_,h⟩
    ·refine ⟨fun f _=>trivial,?_⟩
     rw [Oper.semAt_eq _ _ _ (hnd i o ho)]
     exact uponIn_of (fun a w=>ih a w) _ h
    ·exact absurd h hQ
   ·rename_i hw
    rw [if_neg hw] at h
    exact ⟨fun f _=>trivial,ih _ _ h⟩
theorem RegAny.wpIn {ops:Array Oper} {Q:Exit → Act → World → Prop} {a:Act} {w:World} (h:RegAny ops Q a w) (hnd:NoDefer ops) (hQ:¬ LetsOut Q) (id l n:Nat):(Code.region id ops true).wpIn (Fence.wide.inRound l) n Tryz.prog Q a w:=
 wpIn_region_draw fun t=>wpOpsIn_of hnd hQ _ _ _ (h t)
theorem onlyN_out (K:Act → World → Prop):¬ LetsOut (OnlyN K):=fun ⟨_,_,h⟩=>h
def cells6 (o:Ob):List Value:=[.int .u64 o.a,.int .i64 o.n,.int .u64 o.m,.int .i64 o.i,.int .i64 o.k,.bool o.b]
def flat6:List Ob → List Value
 | []=>[]
 | o :: l=>cells6 o ++ flat6 l
theorem flat6_len (l:List Ob):(flat6 l).length=l.length * 6:=by
 induction l with
 | nil=>rfl
 | cons o l ih=>simp [flat6,cells6,ih];omega
theorem flat6_app (l m:List Ob):flat6 (l ++ m)=flat6 l ++ flat6 m:=by
 induction l with
 | nil=>rfl
 | cons o l ih=>simp [flat6,ih]
theorem flat6_one (l:List Ob):∀ v ∈ flat6 l,v.oneCell'=true:=by
 induction l with
 | nil=>intro v hv;cases hv
 | cons o l ih=>
  intro v hv
  rw [flat6,List.mem_append] at hv
  rcases hv with hv | hv
  ·simp only [cells6,List.mem_cons,List.not_mem_nil,or_false] at hv
   rcases hv with rfl | rfl | rfl | rfl | rfl | rfl <;> rfl
  ·exact ih v hv
theorem flat6_at (l:List Ob) (i j:Nat) (hj:j < 6):(flat6 l)[i * 6 + j]?=l[i]?.bind fun o=>(cells6 o)[j]?:=by
 induction l generalizing i with
 | nil=>simp [flat6]
 | cons o l ih=>
  cases i with
  | zero=>
   rw [flat6,List.getElem?_append_left (by simp [cells6];omega)]
   simp
  | succ i=>
   rw [flat6,List.getElem?_append_right (by simp [cells6];omega)]
   have:(i + 1) * 6 + j - (cells6 o).length=i * 6 + j:=by simp [cells6];omega
   rw [this,ih]
   simp
theorem info_ob:(Tryz.prog.info? 161).map (fun i=>(i.zero,i.size,i.bytes))=some (some (.agg #[.int .u64 0,.int .i64 0,.int .u64 0,.int .i64 0,.int .i64 0,.bool false]),6,48):=by kernel_rfl
def LRow (w:World) (g:Nat) (A:Option Addr) (os:List Ob):Prop:=(A=none∧os.length=0) ∨ ∃ b off,A=some ⟨b,off,none⟩∧b ≠ g∧b < w.heap.size∧∀ j u,(flat6 os)[j]?=some u → w.cell? ⟨b,off + j,none⟩=some u
theorem LRow.kc {w w':World} {g:Nat} {A:Option Addr} {os:List Ob} (h:LRow w g A os) (k:Kc g w w'):LRow w' g A os:=by
 rcases h with h | ⟨b,off,e,h1,h2,h3⟩
 ·exact .inl h
 ·exact .inr ⟨b,off,e,h1,Nat.lt_of_lt_of_le h2 k.size,fun j u hu=>k.cell _ _ h1 (h3 j u hu)⟩
structure Rc (w:World) (g:Nat) (v:Hv) (h:Hp) (x4 x5:Int) (L N:Value):Prop where
 mem:HM w g v h
 hb:HbV w g v h
 c4:w.cell? ⟨g,4,none⟩=some (.int .u32 x4)
 c5:w.cell? ⟨g,5,none⟩=some (.int .i32 x5)
 c7:w.cell? ⟨g,7,none⟩=some L
 c8:w.cell? ⟨g,8,none⟩=some N
 f4:w.frozen? ⟨g,4,none⟩=false
 f5:w.frozen? ⟨g,5,none⟩=false
 f7:w.frozen? ⟨g,7,none⟩=false
 f8:w.frozen? ⟨g,8,none⟩=false
theorem Rc.lt {w:World} {g:Nat} {v:Hv} {h:Hp} {x4 x5:Int} {L N:Value} (r:Rc w g v h x4 x5 L N):g < w.heap.size:=r.hb.lt
theorem Rc.later {w w':World} {g:Nat} {v:Hv} {h:Hp} {x4 x5:Int} {L N:Value} (r:Rc w g v h x4 x5 L N) (hb:Below w.heap.size w w'):Rc w' g v h x4 x5 L N:=by
 have hg:=r.lt
 exact ⟨r.mem.kc (Kc.of_below hb),Hb.later r.hb hb,((bcell hb).1 _ _ hg).trans r.c4,((bcell hb).1 _ _ hg).trans r.c5,((bcell hb).1 _ _ hg).trans r.c7,((bcell hb).1 _ _ hg).trans r.c8,
  ((bcell hb).2 _ _ hg).trans r.f4,((bcell hb).2 _ _ hg).trans r.f5,((bcell hb).2 _ _ hg).trans r.f7,((bcell hb).2 _ _ hg).trans r.f8⟩
theorem Rc.kept {w w':World} {g:Nat} {v:Hv} {h:Hp} {x4 x5:Int} {L N:Value} (r:Rc w g v h x4 x5 L N) {row:Option Nat} (hg:w.grownBy w' row) (hr:∀ q,row=some q → ∃ o:Obj,w.heap[q]?=some o∧o.isCells=false):Rc w' g v h x4 x5 L N:=by
 have hk:Kc g w w':=⟨hg.size,fun a v _ hv=>cell_kept hv hg hr⟩
 exact ⟨r.mem.kc hk,⟨cell_kept r.hb.c0 hg hr,cell_kept r.hb.c1 hg hr,cell_kept r.hb.c2 hg hr,cell_kept r.hb.c3 hg hr⟩,cell_kept r.c4 hg hr,cell_kept r.c5 hg hr,cell_kept r.c7 hg hr,cell_kept r.c8 hg hr,
  (frozen_kept r.c4 hg hr).trans r.f4,(frozen_kept r.c5 hg hr).trans r.f5,(frozen_kept r.c7 hg hr).trans r.f7,(frozen_kept r.c8 hg hr).trans r.f8⟩
def Coll (w:World) (g:Nat) (h:Hp) (L N:Value):Prop:=
 ∃ A cl b,L=.slice A (cursH h).length cl∧LRow w g A (cursH h)∧N=.slice (some ⟨b,0,none⟩) h.ws.length h.ws.length∧b ≠ g∧b < w.heap.size ∧
  ∀ j,j < h.ws.length → w.cell? ⟨b,j,none⟩=some (.int .i64 (hin (addrs (cursH h)) j:Nat))
theorem Coll.kc {w w':World} {g:Nat} {h:Hp} {L N:Value} (c:Coll w g h L N) (k:Kc g w w'):Coll w' g h L N:=by
 obtain ⟨A,cl,b,e1,h1,e2,h2,h3,h4⟩:=c
 exact ⟨A,cl,b,e1,h1.kc k,e2,h2,Nat.lt_of_lt_of_le h3 k.size,fun j hj=>k.cell _ _ h2 (h4 j hj)⟩
def Rd (w:World) (g:Nat) (v:Hv) (h:Hp):Prop:=
 Rc w g v h 0 0 (.slice none 0 0) (.slice none 0 0) ∨ ∃ L N,Rc w g v h 1 0 L N∧Coll w g h L N
theorem Rd.lt {w:World} {g:Nat} {v:Hv} {h:Hp} (r:Rd w g v h):g < w.heap.size:=by
 rcases r with r | ⟨_,_,r,_⟩
 ·exact r.lt
 ·exact r.lt
theorem Rd.mem {w:World} {g:Nat} {v:Hv} {h:Hp} (r:Rd w g v h):HM w g v h:=by
 rcases r with r | ⟨_,_,r,_⟩
 ·exact r.mem
 ·exact r.mem
theorem Rd.hb {w:World} {g:Nat} {v:Hv} {h:Hp} (r:Rd w g v h):HbV w g v h:=by
 rcases r with r | ⟨_,_,r,_⟩
 ·exact r.hb
 ·exact r.hb
theorem Rd.later {w w':World} {g:Nat} {v:Hv} {h:Hp} (r:Rd w g v h) (hb:Below w.heap.size w w'):Rd w' g v h:=by
 rcases r with r | ⟨L,N,r,c⟩
 ·exact .inl (r.later hb)
 ·exact .inr ⟨L,N,r.later hb,c.kc (Kc.of_below hb)⟩
theorem Rd.kept {w w':World} {g:Nat} {v:Hv} {h:Hp} (r:Rd w g v h) {row:Option Nat} (hg:w.grownBy w' row) (hr:∀ q,row=some q → ∃ o:Obj,w.heap[q]?=some o∧o.isCells=false):Rd w' g v h:=by
 have hk:Kc g w w':=⟨hg.size,fun a v _ hv=>cell_kept hv hg hr⟩
 rcases r with r | ⟨L,N,r,c⟩
 ·exact .inl (r.kept hg hr)
 ·exact .inr ⟨L,N,r.kept hg hr,c.kc hk⟩
theorem grown_trans {A B C:World} {g:Nat} (h:A.grownBy B (some g)) (k:B.grownBy C (some g)):A.grownBy C (some g):=
 ⟨k.os.trans h.os,k.tape.trans h.tape,k.output.trans h.output,Nat.le_trans h.size k.size,fun i hi hn=>(k.block i (Nat.lt_of_lt_of_le hi h.size) hn).trans (h.block i hi hn)⟩
end Go.Proofs.YtafpkaifaccehaaGreatDoor
