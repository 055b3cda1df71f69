/- Parts of the proof. -/
import Derived.Test.YtafpkaifaccehaaGreatDoorScavP17
import Derived.Deep.AppendLies
import Derived.OwnWalk
import Derived.BigQuiet
import Derived.Deep.AppendSrc
import Derived.Lib.AppendZerosOnto
import Derived.Deep.RegionHeld3
set_option maxRecDepth 100000
set_option linter.unusedVariables false
set_option linter.unusedSimpArgs false
namespace Go.Proofs.YtafpkaifaccehaaGreatDoor
open Go.RowKit
theorem res_arena1 {fn:Func} {p:Tmp} (h:fn.results=#[.cell p 24]) {tmps:Array Value} {w:World} {g:Nat} {v0:Value} (hp:tmps.getD p undef=.pointer (some ⟨g,0,none⟩))
  (h0:w.cell? ⟨g,0,none⟩=some v0):(results fn tmps).run Tryz.prog w=.ok (.agg #[v0]) w:=by
 have hp2:tmps[p]?.getD undef=.pointer (some ⟨g,0,none⟩):=by rw [← hp];simp
 simp only [results,h]
 simp [go_sem,Result.andThen,h0,asAddr,hp2]
def CopiedA (w:World) (ws:List Nat) (e:Ending) (w':World):Prop:=
 ∃ A cap,e=.returned (.agg #[.slice A ws.length cap])∧(Own w' w.heap.size A ws∧ws.length ≤ cap)∧Below w.heap.size w w'
theorem cap_of_owns {w:World} {B t s n cap g:Nat} {xs:List Value} (h:w.ownsRow B t s (.slice (some ⟨g,0,none⟩) n cap) n xs):n ≤ cap:=by
 obtain ⟨_,⟨h1,h2⟩ | ⟨g',cap',cur,e,_,_,h3,_⟩⟩:=h
 ·injection h1 with h1;cases h1
 ·injection e with e1 e2 e3
  omega
theorem acopy_nil (A:Option Addr) (cap:Nat) (w:World) :
  Calls Tryz.prog 70 #[.agg #[.slice A 0 cap]] w fun e w'=>CopiedA w [] e w':=by
 cases A
 all_goals
  go_enter Tryz.func70,Tryz.ntmps70
  go_wp2
  exact bodyPost_ret (res_arena1 rfl rfl (g:=w.heap.size + 1) (by simp [go_sem] <;> rfl)) rfl ⟨_,0,rfl,⟨⟨fun x hx=>by simp at hx,fun h=>by simp at h⟩,Nat.le_refl _⟩,bX⟩
theorem acopy_some (b off cap:Nat) (ws:List Nat) (w:World) (hr:Row w w.heap.size (some ⟨b,off,none⟩) ws) (h0:0 < ws.length) (hm:ws.length ≤ 17592186044416) :
  Calls Tryz.prog 70 #[.agg #[.slice (some ⟨b,off,none⟩) ws.length cap]] w fun e w'=>CopiedA w ws e w':=by
 obtain ⟨i0,hi,hz0,hz1,hz2⟩:=info_parts info_u64
 go_enter Tryz.func70,Tryz.ntmps70
 go_wp2_with (at_builtin;refine wpList_append_lies _ rfl (.tmp 3) (.tmp 5) 22 rfl (w.heap.size + 2) 32 i0 _ 1 8 Tryz.underlying22 hi hz0 hz1 hz2 rfl (by omega) (.slice (some ⟨w.heap.size + 1 + 1,0,none⟩) 0 0) 0 [] (by simp [Act.eval,Act.put]) (own_empty w _ _ _ rfl) ⟨b,off,none⟩ ws.length cap (vals ws) (by simp [Act.eval,Act.put]) (by simp [vals]) (hr.src2 bX) (vals_one ws) h0 (by unfold maxLen;omega) (by omega) (by simp) _ rfl ?_;intro g cap2 w2 hown2 hg2 hat2 hlt2;simp only [Nat.zero_add,List.nil_append] at hown2;have hb_w2:Below (w.heap.size + 2) _ w2:=(Below.refl _ _).grown hg2 lX (fun k hk=>(by simp [Value.ownBlock] at hk;omega));obtain ⟨hc_w2,hf_w2⟩:=bcell hb_w2;have hz_w2_w_0:w.heap.size < w2.heap.size:=lY hb_w2.size;have hz_w2_w_1:w.heap.size + 1 < w2.heap.size:=lY hb_w2.size)
 all_goals
  have t2:One w2 (w.heap.size + 1) (.slice none 0 0):=⟨(hc_w2 _ _ lX).trans (by simp [go_sem]),(hf_w2 _ _ lX).trans (by simp [go_sem])⟩
  have ho:=Own.of_owns hown2 hr.words
  exact bodyPost_ret (res_arena1 rfl rfl (t2.set_ _).c0) rfl ⟨_,cap2,rfl,⟨(ho.far (.inl lX) _).mono lX,cap_of_owns hown2⟩,bX⟩
section
variable {A:Option Addr} {ws:List Nat} {w:World} (cap:Nat)
theorem acopy_any (hr:Row w w.heap.size A ws) (hm:ws.length ≤ 17592186044416) :
  Calls Tryz.prog 70 #[.agg #[.slice A ws.length cap]] w fun e w'=>CopiedA w ws e w':=by
 by_cases h0:0 < ws.length
 ·obtain ⟨b,off,rfl,_,_⟩:=hr.at_ h0
  exact acopy_some b off cap ws w hr h0 hm
 ·obtain rfl:ws=[]:=List.eq_nil_of_length_eq_zero (by omega)
  exact acopy_nil A cap w
end
theorem asame_ok (ws:List Nat) (hm:ws.length ≤ maxLen) (w:World) (A A':Option Addr) (cap cap':Nat) (hr:Row w w.heap.size A ws) (hr':Row w w.heap.size A' ws) :
  Calls Tryz.prog 92 #[.agg #[.slice A ws.length cap],.agg #[.slice A' ws.length cap']] w fun e w'=>e=.returned (.bool true)∧Below w.heap.size w w':=by
 unfold maxLen at hm
 have hd2:((ws.length:Int) != (ws.length:Int))=false:=by simp
 go_enter Tryz.func92,Tryz.ntmps92
 go_wp2
 go_loopw [16] (fun i wr=>∃ k m:Nat,i=.int .i64 k∧k ≤ ws.length∧wr=((w.alloc (Obj.cells #[Value.slice A ws.length cap] 24)).alloc (Obj.cells #[Value.slice A' ws.length cap'] 24)).drewN m)
  (fun i _=>ws.length - (intOf i).toNat)
 case atStart=>exact ⟨0,0,rfl,Nat.zero_le _,rfl⟩
 case round=>
  obtain ⟨k,m,rfl,hk,rfl⟩:=hrel
  by_cases hlt:k < ws.length
  ·obtain ⟨b,off,rfl,hb,hc⟩:=hr.at_ (by omega)
   obtain ⟨b',off',rfl,hb',hc'⟩:=hr'.at_ (by omega)
   have hck:=hc k hlt
   have hck':=hc' k hlt
   obtain ⟨x,hx⟩:=named ws k
   rw [hx.out] at hck hck'
   have hd3:((x:Int) != (x:Int))=false:=by simp
   clear hc hc'
   go_wp2
   go_quiet (fail)
   go_wp2
   go_roundw
   case rel=>exact ⟨k + 1,_,by go_num,by omega,rfl⟩
   case measure=>simp [intOf];omega
  ·go_wp2
   go_ret
   exact ⟨rfl,bX⟩
section
variable {n:Int} {A:Option Addr} {ws:List Nat} {w:World} (cap:Nat)
theorem rpcopy_any (hr:Row w w.heap.size A ws) (hm:ws.length ≤ 17592186044416) :
  Calls Tryz.prog 71 #[.agg #[.int .i64 n,.slice A ws.length cap]] w fun e w'=>Copied w n ws e w':=by
 go_enter Tryz.func71,Tryz.ntmps71
 go_wp2_with (go_at_call 133;refine (copy_any _ _ (hr.later bX) hm).mono ?_;rintro e w1 ⟨A1,cap1,rfl,ho1,hb_w1⟩;obtain ⟨hc_w1,hf_w1⟩:=bcell hb_w1;have hz_w1_w_0:w.heap.size < w1.heap.size:=lY hb_w1.size;have hz_w1_w_1:w.heap.size + 1 < w1.heap.size:=lY hb_w1.size)
 have k0:w1.cell? ⟨w.heap.size + 1,0,none⟩=_:=(hc_w1 _ _ lX).trans (by simp [go_sem];rfl)
 have k1:w1.cell? ⟨w.heap.size + 1,1,none⟩=_:=(hc_w1 _ _ lX).trans (by simp [go_sem];rfl)
 exact bodyPost_ret (res_pages1 rfl rfl (set_two _ _ k0 k1).1 (set_two _ _ k0 k1).2) rfl ⟨A1,cap1,rfl,(ho1.two (g:=w.heap.size + 1) lX).mono lX,bX⟩
theorem rpsame_ok (hm:ws.length ≤ maxLen) (A':Option Addr) (cap':Nat) (hr:Row w w.heap.size A ws) (hr':Row w w.heap.size A' ws) :
  Calls Tryz.prog 93 #[.agg #[.int .i64 n,.slice A ws.length cap],.agg #[.int .i64 n,.slice A' ws.length cap']] w fun e w'=>e=.returned (.bool true)∧Below w.heap.size w w':=by
 go_enter Tryz.func93,Tryz.ntmps93
 go_wp2_with fail
 go_at_call 141
 refine (same_ok n ws hm _ _ _ _ _ (hr.later bX) (hr'.later bX)).mono ?_
 rintro e w1 ⟨rfl,hb_w1⟩
 obtain ⟨hc_w1,hf_w1⟩:=bcell hb_w1;have hz_w1_w_0:w.heap.size < w1.heap.size:=lY hb_w1.size;have hz_w1_w_1:w.heap.size + 1 < w1.heap.size:=lY hb_w1.size;have hs_w1:=hb_w1.size;(try simp only [zZ] at hs_w1)
 go_wp2
 go_ret
 exact ⟨rfl,bX⟩
end
structure HIn (w:World) (b:Nat) (v:Hv) (h:Hp):Prop where
 box:B4 w b (.slice v.A h.ws.length v.ca) (.int .i64 h.n) (.slice v.U h.us.length v.cu) (.slice v.V h.l.length v.cv)
 m:HM w w.heap.size v h
theorem HIn.lt {w:World} {b:Nat} {v:Hv} {h:Hp} (x:HIn w b v h):b < w.heap.size:=x.box.lt
theorem HIn.later {w w':World} {b:Nat} {v:Hv} {h:Hp} (x:HIn w b v h) (hb:Below w.heap.size w w'):HIn w' b v h:=⟨x.box.later hb,x.m.later hb⟩
theorem HIn.alloc {w:World} {b:Nat} {v:Hv} {h:Hp} (x:HIn w b v h) (o:Obj):HIn (w.alloc o) b v h:=x.later ((Below.refl _ _).alloc (Nat.le_refl _) _)
theorem HIn.new {w:World} {v:Hv} {h:Hp} (m:HM w w.heap.size v h) (t:TypeId):HIn (w.alloc (.cells #[.slice v.A h.ws.length v.ca,.int .i64 h.n,.slice v.U h.us.length v.cu,.slice v.V h.l.length v.cv] t)) w.heap.size v h:=
 ⟨B4.new _ _ _ _ _ _,m.later ((Below.refl _ _).alloc (Nat.le_refl _) _)⟩
structure Short (h:Hp):Prop where
 l:h.l.length ≤ 1466015503658
 ws:h.ws.length ≤ 17592186044416
 us:h.us.length ≤ 17592186044416
 each:WordsLe h.l
theorem OkH.short {h:Hp} (hk:OkH h):Short h:=by
 have h1:=hk.framed.pages.2.2.1
 have h2:=hk.framed.pages.2.1
 refine ⟨by have:=hk.framed.spans.1;omega,hk.lens.2,by omega,fun d hd=>?_⟩
 obtain ⟨i,hi,rfl⟩:=List.getElem_of_mem hd
 have ok:=hk.framed.spans.at_ hi
 have e:nth h.l i=h.l[i]:=by unfold nth;rw [List.getD_eq_getElem?_getD,List.getElem?_eq_getElem hi];rfl
 rw [e] at ok
 have a1:=ok.aw
 have a2:=ok.mw
 omega
section
variable {w:World} {v v':Hv} {h:Hp}
set_option maxHeartbeats 1000000 in
theorem hsame_any (m:HM w w.heap.size v h) (m':HM w w.heap.size v' h) (hs:Short h) :
  Calls Tryz.prog 20 #[hpV v h,hpV v' h] w fun e w'=>e=.returned (.bool true)∧Below w.heap.size w w':=by
 have HA:=Lib.hid fun (w:World) h1 h2=>asame_ok h.ws (by have:=hs.ws;unfold maxLen;omega) w v.A v'.A v.ca v'.ca h1 h2
 have HU:=Lib.hid fun (w:World) h1 h2=>rpsame_ok (n:=h.n) (A:=v.U) (ws:=h.us) (w:=w) v.cu (by have:=hs.us;unfold maxLen;omega) v'.U v'.cu h1 h2
 have HV:=Lib.hid fun (w:World) h1 h2=>xsameL_self (w:=w) (A:=v.V) (C:=v'.V) (l:=h.l) v.cv v'.cv h1 h2 (by have:=hs.l;omega) hs.each
 have hx:=HIn.new m 31
 have hx1:=hx.alloc (.cells #[.slice v'.A h.ws.length v'.ca,.int .i64 h.n,.slice v'.U h.us.length v'.cu,.slice v'.V h.l.length v'.cv] 31)
 have hm1:=m'.later ((Below.refl _ _).alloc (Nat.le_refl _) (.cells #[.slice v.A h.ws.length v.ca,.int .i64 h.n,.slice v.U h.us.length v.cu,.slice v.V h.l.length v.cv] 31))
 have hy1:=HIn.new hm1 31
 rw [World.size_alloc] at hy1
 clear hx hm1
 unfold hpV hpv
 go_enter Tryz.func20,Tryz.ntmps20
 go_wp2_with fail
 go_at_call 92
 refine (HA.out _ (by exact hx1.m.a) (by exact hy1.m.a)).mono ?_
 rintro e w1 ⟨rfl,hb_w1⟩
 have b1:Below w.heap.size w w1:=bX
 have hx2:=hx1.later hb_w1
 have hy2:=hy1.later hb_w1
 obtain ⟨c0,c1,c2,c3,f0,f1,f2,f3⟩:=id hx2.box
 obtain ⟨d0,d1,d2,d3,g0,g1,g2,g3⟩:=id hy2.box
 go_wp2_with fail
 go_at_call 93
 refine (HU.out _ (by exact hx2.m.u) (by exact hy2.m.u)).mono ?_
 rintro e w2 ⟨rfl,hb_w2⟩
 have b2:Below w.heap.size w w2:=b1.trans (hb_w2.mono b1.size)
 have hx3:=hx2.later hb_w2
 have hy3:=hy2.later hb_w2
 clear c0 c1 c2 c3 f0 f1 f2 f3 d0 d1 d2 d3 g0 g1 g2 g3
 obtain ⟨c0,c1,c2,c3,f0,f1,f2,f3⟩:=id hx3.box
 obtain ⟨d0,d1,d2,d3,g0,g1,g2,g3⟩:=id hy3.box
 go_wp2_with fail
 go_at_call 94
 refine (HV.out _ (by exact hx3.m.v) (by exact hy3.m.v)).mono ?_
 rintro e w3 ⟨rfl,hb_w3⟩
 have b3:Below w.heap.size w w3:=b2.trans (hb_w3.mono b2.size)
 go_wp2
 go_ret
 exact ⟨rfl,b3⟩
end
theorem CopX.far {w:World} {B n cap:Nat} {A:Option Addr} {vs:List Sv} (h:CopX w B A n cap vs) {p:Addr} (hp:p.block < B) (u:Value):CopX (w.setCell p u) B A n cap vs:=
 ⟨h.len,ownsRow_far h.row_ hp u,fun v hv=>⟨(h.words v hv).1.far (.inl hp) u,(h.words v hv).2.far (.inl hp) u⟩,h.apart⟩
theorem CopX.owns {w:World} {B n cap:Nat} {A:Option Addr} {vs:List Sv} (h:CopX w B A n cap vs) (hp:∀ v ∈ vs,0 < v.d.aw.length∧0 < v.d.mw.length):OwnsS w B A n cap vs:=
 ⟨h.len,h.row_,h.words,fun v hv g e=>⟨(h.apart v hv g e).1 (hp v hv).1,(h.apart v hv g e).2 (hp v hv).2⟩⟩
structure CopO (w:World) (B:Nat) (v:Hv) (h:Hp):Prop where
 ex:∃ s,B ≤ s∧Own w B v.A h.ws∧(0 < h.ws.length → ∃ g,v.A=some ⟨g,0,none⟩∧g < s)∧Own w s v.U h.us∧∃ vs,sdsOf vs=h.l∧OwnsS w s v.V h.l.length v.cv vs
theorem CopO.owns {w:World} {B:Nat} {v:Hv} {h:Hp} (c:CopO w B v h):OwnsH w B v h:=by
 obtain ⟨s,hs,a,_,u,vs,e,o⟩:=c.ex
 exact ⟨a,u.mono hs,vs,e,o.mono hs⟩
theorem CopO.later {w w':World} {B:Nat} {v:Hv} {h:Hp} (c:CopO w B v h) (hb:Below w.heap.size w w'):CopO w' B v h:=by
 obtain ⟨s,hs,a,q,u,vs,e,o⟩:=c.ex
 exact ⟨s,hs,a.later hb,q,u.later hb,vs,e,o.later hb⟩
theorem CopO.far {w:World} {B:Nat} {v:Hv} {h:Hp} (c:CopO w B v h) {p:Addr} (hp:p.block < B) (u:Value):CopO (w.setCell p u) B v h:=by
 obtain ⟨s,hs,a,q,u',vs,e,o⟩:=c.ex
 exact ⟨s,hs,a.far (.inl hp) u,q,u'.far (.inl (by omega)) u,vs,e,o.far (by omega) u⟩
theorem res_hpc {fn:Func} {p:Tmp} (h:fn.results=#[.cell p 31]) {tmps:Array Value} {w:World} {g:Nat} {v0 v1 v2 v3:Value} (hp:tmps.getD p undef=.pointer (some ⟨g,0,none⟩)) (c:B4 w g v0 v1 v2 v3) :
  (results fn tmps).run Tryz.prog w=.ok (.agg #[v0,v1,v2,v3]) w:=by
 have hp2:tmps[p]?.getD undef=.pointer (some ⟨g,0,none⟩):=by rw [← hp];simp
 simp only [results,h]
 simp [go_sem,Result.andThen,c.c0,c.c1,c.c2,c.c3,asAddr,hp2]
section
variable {w:World} {v v':Hv} {h:Hp}
set_option maxHeartbeats 4000000 in
theorem hcopyW_any (m:HM w w.heap.size v h) (hs:Short h) :
  Calls Tryz.prog 14 #[hpV v h] w fun e w'=>∃ v',e=.returned (hpV v' h)∧HM w' w'.heap.size v' h∧(OkH h → CopO w' w.heap.size v' h)∧(v'.V=none → v'.cv=0)∧Below w.heap.size w w':=by
 have HA:=Lib.hid fun (w:World) hr=>acopy_any (w:=w) (A:=v.A) (ws:=h.ws) v.ca hr hs.ws
 have HU:=Lib.hid fun (w:World) hr=>rpcopy_any (w:=w) (n:=h.n) (A:=v.U) (ws:=h.us) v.cu hr hs.us
 have HV:=Lib.hid fun (w:World) hr=>xcopyL_any (w:=w) (A:=v.V) (l:=h.l) v.cv hr hs.l hs.each
 unfold CopiedA at HA
 unfold Copied at HU
 have hA:=m.a
 have hU:=m.u
 have hV:=m.v
 have hx0:=B4.new (w.alloc (.cells #[.slice v.A h.ws.length v.ca,.int .i64 h.n,.slice v.U h.us.length v.cu,.slice v.V h.l.length v.cv] 31)) (.slice none 0 0) (.int .i64 0) (.slice none 0 0) (.slice none 0 0) 31
 rw [World.size_alloc] at hx0
 have hy0:=(B4.new w (.slice v.A h.ws.length v.ca) (.int .i64 h.n) (.slice v.U h.us.length v.cu) (.slice v.V h.l.length v.cv) 31).later (Below.alloc (Below.refl _ _) (Nat.le_refl _) (.cells #[.slice none 0 0,.int .i64 0,.slice none 0 0,.slice none 0 0] 31))
 clear m hs
 unfold hpV hpv
 go_enter Tryz.func14,Tryz.ntmps14
 go_wp2_with fail
 refine wp_region_held_drew (S:=(fun X:World=>X.cell? ⟨w.heap.size,0,none⟩=some (.slice v.A h.ws.length v.ca)∧X.cell? ⟨w.heap.size,1,none⟩=some (.int .i64 h.n)∧X.cell? ⟨w.heap.size,2,none⟩=some (.slice v.U h.us.length v.cu)∧X.cell? ⟨w.heap.size,3,none⟩=some (.slice v.V h.l.length v.cv))) (by kernel_rfl) ?_ fun _=>?_
 ·exact kS
 refine tY 0 ?_
 try simp only [Act.put,qZ]
 refine tY 1 ?_
 try simp only [Act.put,qZ]
 refine tY 3 ?_
 try simp only [Act.put,qZ]
 refine tY 4 ?_
 try simp only [Act.put,qZ]
 refine tY 6 ?_
 try simp only [Act.put,qZ]
 refine tY 7 ?_
 try simp only [Act.put,qZ]
 refine tR 2 fun K hK=>?_
 try simp only [qZ]
 go_simp
 go_at_call 70
 refine (HA.out _ (hA.later bX)).mono ?_
 rintro e w1 ⟨A1,c1,rfl,⟨o1,_⟩,hb_w1⟩
 have hs_w1:=hb_w1.size
 (try simp only [zZ] at hs_w1)
 have k1:Below w.heap.size w w1:=bX
 have x1:=(hx0.later ((Below.refl _ _).drew)).later hb_w1
 have i1:=(hy0.later ((Below.refl _ _).drew)).later hb_w1
 have mw10:w1.cell? ⟨w.heap.size,0,none⟩=some (.slice v.A h.ws.length v.ca):=cX hb_w1
 have mw11:w1.cell? ⟨w.heap.size,1,none⟩=some (.int .i64 h.n):=cX hb_w1
 have mw12:w1.cell? ⟨w.heap.size,2,none⟩=some (.slice v.U h.us.length v.cu):=cX hb_w1
 have mw13:w1.cell? ⟨w.heap.size,3,none⟩=some (.slice v.V h.l.length v.cv):=cX hb_w1
 try go_wp2_with fail
 refine hK.out _ _ ?_ fun _=>?_
 ·exact kS
 clear hK K
 try simp only [Act.put,qZ]
 refine tR 5 fun K hK=>?_
 try simp only [qZ]
 go_simp
 go_at_call 71
 refine (HU.out _ (hU.later k1)).mono ?_
 rintro e w2 ⟨U2,c2,rfl,o2,hb_w2⟩
 have hs_w2:=hb_w2.size
 have k2:Below w.heap.size w w2:=k1.trans (hb_w2.mono k1.size)
 have x2:=x1.later hb_w2
 have i2:=i1.later hb_w2
 have p2:=o1.later hb_w2
 have mw20:w2.cell? ⟨w.heap.size,0,none⟩=some (.slice v.A h.ws.length v.ca):=cX hb_w2
 have mw21:w2.cell? ⟨w.heap.size,1,none⟩=some (.int .i64 h.n):=cX hb_w2
 have mw22:w2.cell? ⟨w.heap.size,2,none⟩=some (.slice v.U h.us.length v.cu):=cX hb_w2
 have mw23:w2.cell? ⟨w.heap.size,3,none⟩=some (.slice v.V h.l.length v.cv):=cX hb_w2
 try go_wp2_with fail
 refine hK.out _ _ ?_ fun _=>?_
 ·exact kS
 clear hK K
 try simp only [Act.put,qZ]
 refine tR 8 fun K hK=>?_
 try simp only [qZ]
 go_simp
 go_at_call 72
 refine (HV.out _ (hV.later k2)).mono ?_
 rintro e w3 ⟨V3,c3,vs,rfl,hvs,o3,hb_w3⟩
 have hs_w3:=hb_w3.size
 have k3:Below w.heap.size w w3:=k2.trans (hb_w3.mono k2.size)
 have x3:=x2.later hb_w3
 have i3:=i2.later hb_w3
 have p3:=p2.later hb_w3
 have q3:=o2.later hb_w3
 obtain ⟨y0,y1,y2,y3,z0,z1,z2,z3⟩:=id x3
 have mw30:w3.cell? ⟨w.heap.size,0,none⟩=some (.slice v.A h.ws.length v.ca):=cX hb_w3
 have mw31:w3.cell? ⟨w.heap.size,1,none⟩=some (.int .i64 h.n):=cX hb_w3
 have mw32:w3.cell? ⟨w.heap.size,2,none⟩=some (.slice v.U h.us.length v.cu):=cX hb_w3
 have mw33:w3.cell? ⟨w.heap.size,3,none⟩=some (.slice v.V h.l.length v.cv):=cX hb_w3
 try go_wp2_with fail
 refine hK.out _ _ ?_ fun _=>?_
 ·exact kS
 clear hK K
 try simp only [Act.put,qZ]
 refine tY 9 ?_
 try simp only [Act.put,qZ]
 refine tR 10 fun K hK=>?_
 try simp only [qZ]
 go_simp
 have I4:=((((i3.far (p:=⟨w.heap.size + 1,0,none⟩) (by show w.heap.size + 1 ≠ w.heap.size;omega) (.slice A1 h.ws.length c1)).far (p:=⟨w.heap.size + 1,1,none⟩) (by show w.heap.size + 1 ≠ w.heap.size;omega) (.int .i64 h.n)).far (p:=⟨w.heap.size + 1,2,none⟩) (by show w.heap.size + 1 ≠ w.heap.size;omega) (.slice U2 h.us.length c2)).far (p:=⟨w.heap.size + 1,3,none⟩) (by show w.heap.size + 1 ≠ w.heap.size;omega) (.slice V3 h.l.length c3))
 obtain ⟨t0,t1,t2,t3,_,_,_,_⟩:=id I4
 refine hK.out _ _ ?_ fun _=>?_
 ·exact kS
 clear hK K
 try simp only [Act.put,qZ]
 refine wpAnyH_done (by kernel_rfl) ?_ _
 have E0:=x3.all (.slice A1 h.ws.length c1) (.int .i64 h.n) (.slice U2 h.us.length c2) (.slice V3 h.l.length c3)
 have hb4:=below_all k3 (b:=w.heap.size + 1) (by omega) (.slice A1 h.ws.length c1) (.int .i64 h.n) (.slice U2 h.us.length c2) (.slice V3 h.l.length c3)
 have o3':=((((o3.far (p:=⟨w.heap.size + 1,0,none⟩) (by show w.heap.size + 1 < _;omega) (.slice A1 h.ws.length c1)).far (p:=⟨w.heap.size + 1,1,none⟩) (by show w.heap.size + 1 < _;omega) (.int .i64 h.n)).far (p:=⟨w.heap.size + 1,2,none⟩) (by show w.heap.size + 1 < _;omega) (.slice U2 h.us.length c2)).far (p:=⟨w.heap.size + 1,3,none⟩) (by show w.heap.size + 1 < _;omega) (.slice V3 h.l.length c3))
 have q3':=((((q3.far (p:=⟨w.heap.size + 1,0,none⟩) (.inl (by show w.heap.size + 1 < _;omega)) (.slice A1 h.ws.length c1)).far (p:=⟨w.heap.size + 1,1,none⟩) (.inl (by show w.heap.size + 1 < _;omega)) (.int .i64 h.n)).far (p:=⟨w.heap.size + 1,2,none⟩) (.inl (by show w.heap.size + 1 < _;omega)) (.slice U2 h.us.length c2)).far (p:=⟨w.heap.size + 1,3,none⟩) (.inl (by show w.heap.size + 1 < _;omega)) (.slice V3 h.l.length c3))
 have p3':=((((p3.far (p:=⟨w.heap.size + 1,0,none⟩) (.inl (by simp only [zD,zA];show w.heap.size + 1 < _;omega)) (.slice A1 h.ws.length c1)).far (p:=⟨w.heap.size + 1,1,none⟩) (.inl (by simp only [zD,zA];show w.heap.size + 1 < _;omega)) (.int .i64 h.n)).far (p:=⟨w.heap.size + 1,2,none⟩) (.inl (by simp only [zD,zA];show w.heap.size + 1 < _;omega)) (.slice U2 h.us.length c2)).far (p:=⟨w.heap.size + 1,3,none⟩) (.inl (by simp only [zD,zA];show w.heap.size + 1 < _;omega)) (.slice V3 h.l.length c3))
 have hm:HM _ _ ⟨A1,c1,U2,c2,V3,c3⟩ h:=⟨p3'.row,q3'.row,by have:=o3'.srow;rw [hvs] at this;exact this⟩
 have hsa:0 < h.ws.length → ∃ g,A1=some ⟨g,0,none⟩∧g < w1.heap.size:=fun hl=>by
  obtain ⟨g,e,_,h2,_⟩:=o1.at_ hl
  exact ⟨g,e,h2⟩
 have hnl:V3=none → c3=0:=(owns_cap o3.row_).2
 have ho:OkH h → CopO _ w.heap.size ⟨A1,c1,U2,c2,V3,c3⟩ h:=fun hk=>⟨w1.heap.size,k1.size,p3'.mono (by simp only [zD,zA];omega),hsa,q3',vs,hvs,(o3'.owns fun x hx=>(by
  have h1:x.d ∈ h.l:=by rw [← hvs];exact List.mem_map.2 ⟨x,hx,rfl⟩
  have h2:=hk.framed.spans.words _ h1
  omega)).mono (by omega)⟩
 clear t0 t1 t2 t3 y0 y1 y2 y3 z0 z1 z2 z3
 go_wp2
 exact bodyPost_ret (res_hpc rfl rfl E0) rfl ⟨⟨A1,c1,U2,c2,V3,c3⟩,rfl,hm,ho,hnl,hb4⟩
theorem hcopy_any (m:HM w w.heap.size v h) (hs:Short h) :
  Calls Tryz.prog 14 #[hpV v h] w fun e w'=>∃ v',e=.returned (hpV v' h)∧HM w' w'.heap.size v' h∧Below w.heap.size w w':=
 (hcopyW_any m hs).mono fun e w' ⟨v',h1,h2,_,_,h3⟩=>⟨v',h1,h2,h3⟩
theorem hcopyO_any (m:HM w w.heap.size v h) (hk:OkH h) :
  Calls Tryz.prog 14 #[hpV v h] w fun e w'=>∃ v',e=.returned (hpV v' h)∧CopO w' w.heap.size v' h∧Below w.heap.size w w':=
 (hcopyW_any m hk.short).mono fun e w' ⟨v',h1,_,h2,_,h3⟩=>⟨v',h1,h2 hk,h3⟩
end
set_option maxHeartbeats 8000000 in
theorem plainH_any {w:World} {v:Hv} {h:Hp} (hM:HM w w.heap.size v h) (hF:Framed h) (hnil:v.V=none → v.cv=0) :
  Calls Tryz.prog 144 #[hpV v h] w fun e w'=>∃ v',e=.returned (hpV v' h)∧OwnsH w' w.heap.size v' h∧Below w.heap.size w w':=by
 obtain ⟨vs0,hvs,hvr,hrs⟩:=hM.v.vals
 have hl256:=hF.spans.1
 have hww:=hF.words
 have hlen0:vs0.length=h.l.length:=sds_len hvs
 have hA0:v.A=none → v.ca=0:=fun e=>by
  have:=hF.long
  have:=hF.some_
  obtain ⟨b,off,e2,_⟩:=hM.a.at_ (by omega)
  rw [e] at e2;cases e2
 have hU0:v.U=none → v.cu=0:=fun e=>by
  have h1:=hF.pages.2.2.1
  have h2:=hF.some_
  obtain ⟨b,off,e2,_⟩:=hM.u.at_ (by omega)
  rw [e] at e2;cases e2
 have hul:h.us.length ≤ 17592186044416:=by have h1:=hF.pages.2.2.1;have h2:=hF.pages.2.1;omega
 have HW:Hid (∀ x ∈ vs0,x.d.aw.length=1∧x.d.mw.length=1):=Lib.hid (fun x hx=>by
  have:x.d ∈ h.l:=by rw [← hvs];exact List.mem_map.2 ⟨x,hx,rfl⟩
  exact hF.spans.words _ this)
 have HCA:=Lib.hid fun (w:World) (hr:Row w w.heap.size v.A h.ws)=>wclone_any (w:=w) (A:=v.A) (t:=h.ws) v.ca hr (by omega) hA0
 have HCU:=Lib.hid fun (w:World) (hr:Row w w.heap.size v.U h.us)=>wclone_any (w:=w) (A:=v.U) (t:=h.us) v.cu hr hul hU0
 have HCS:=Lib.hid fun (w:World) (hr:VRow w v.V vs0)=>sclone_any (w:=w) (A:=v.V) v.cv h.l.length vs0 hr hlen0 (by omega) hnil
 have HVS:=Lib.hid hvs
 have HLN:=Lib.hid hlen0
 have HRS:=Lib.hid hrs
 have HL:=Lib.hid hl256
 have HMA:=Lib.hid hM.a
 have HMU:=Lib.hid hM.u
 have HVR:=Lib.hid hvr
 clear hF hM hvs hrs hvr hA0 hU0 hul hww hnil hlen0
 unfold CopiedN at HCA HCU
 unfold hpV hpv
 go_enter Tryz.func144,Tryz.ntmps144
 go_wp2_with fail
 go_at_call 205
 refine (HCA.out _ (HMA.out.later bX)).mono ?_
 rintro e w1 ⟨A1,c1,rfl,oA,hb_w1⟩
 obtain ⟨hc_w1,hf_w1⟩:=bcell hb_w1;have hz_w1_w_0:w.heap.size < w1.heap.size:=lY hb_w1.size;have hz_w1_w_1:w.heap.size + 1 < w1.heap.size:=lY hb_w1.size;have hs_w1:=hb_w1.size;(try simp only [zZ] at hs_w1)
 have hB0:B4 (w.alloc (.cells #[.slice v.A h.ws.length v.ca,.int .i64 h.n,.slice v.U h.us.length v.cu,.slice v.V h.l.length v.cv] 31)) w.heap.size _ _ _ _:=B4.new _ _ _ _ _ _
 have hBx:=((hB0.later (Below.alloc (Below.refl _ _) (Nat.le_refl _) (.cells #[.slice none 0 0,.int .i64 0,.slice none 0 0,.slice none 0 0] 31))).later hb_w1)
 have hR0:=(B4.new (w.alloc (.cells #[.slice v.A h.ws.length v.ca,.int .i64 h.n,.slice v.U h.us.length v.cu,.slice v.V h.l.length v.cv] 31)) (.slice none 0 0) (.int .i64 0) (.slice none 0 0) (.slice none 0 0) 31).later hb_w1
 simp only [zA] at oA hR0
 have hbA:Below w.heap.size w w1:=bX
 have hs1:=hR0.lt
 obtain ⟨b0,b1,b2,b3,f0,f1,f2,f3⟩:=id hBx
 clear hc_w1 hf_w1 hB0
 have oA2:=oA.own.far (p:=⟨w.heap.size,0,none⟩) (.inl (by show w.heap.size < w.heap.size + 1 + 1;omega)) (.slice A1 h.ws.length c1)
 have hBx2:=hBx.set0 (.slice A1 h.ws.length c1)
 have hR2:=hR0.far (p:=⟨w.heap.size,0,none⟩) (by show w.heap.size ≠ w.heap.size + 1;omega) (.slice A1 h.ws.length c1)
 have hb2:Below w.heap.size w (w1.setCell ⟨w.heap.size,0,none⟩ (.slice A1 h.ws.length c1)):=hbA.setCell (p:=⟨w.heap.size,0,none⟩) (Nat.le_refl _) _
 go_wp2_with fail
 clear b0 b1 b2 b3 f0 f1 f2 f3 hb_w1 hBx hR0 hbA hs1 hs_w1 hz_w1_w_0 hz_w1_w_1 oA
 generalize w1.setCell ⟨w.heap.size,0,none⟩ (.slice A1 h.ws.length c1)=wa at *
 have hza:=hR2.lt
 go_at_call 205
 refine (HCU.out _ (HMU.out.later hb2)).mono ?_
 rintro e w2 ⟨U1,cu1,rfl,oU,hb_w2⟩
 have oA3:=oA2.later hb_w2
 have hBx3:=hBx2.later hb_w2
 have hR3:=hR2.later hb_w2
 have hb3:Below w.heap.size w w2:=hb2.trans (hb_w2.mono hb2.size)
 clear oA2 hBx2 hR2 hb2
 have oA4:=oA3.far (p:=⟨w.heap.size,2,none⟩) (.inl (by show w.heap.size < w.heap.size + 1 + 1;omega)) (.slice U1 h.us.length cu1)
 have oU4:=oU.own.far (p:=⟨w.heap.size,2,none⟩) (.inl (by show w.heap.size < wa.heap.size;omega)) (.slice U1 h.us.length cu1)
 have hBx4:=hBx3.set2 (.slice U1 h.us.length cu1)
 have hR4:=hR3.far (p:=⟨w.heap.size,2,none⟩) (by show w.heap.size ≠ w.heap.size + 1;omega) (.slice U1 h.us.length cu1)
 have hb4:Below w.heap.size w (w2.setCell ⟨w.heap.size,2,none⟩ (.slice U1 h.us.length cu1)):=hb3.setCell (p:=⟨w.heap.size,2,none⟩) (Nat.le_refl _) _
 obtain ⟨b0,b1,b2,b3,f0,f1,f2,f3⟩:=id hBx3
 go_wp2_with fail
 clear b0 b1 b2 b3 f0 f1 f2 f3 hb_w2 hBx3 hR3 hb3 oA3 oU
 generalize w2.setCell ⟨w.heap.size,2,none⟩ (.slice U1 h.us.length cu1)=wb at *
 have hzb:=hR4.lt
 have hwb:=hb4.size
 have HA4:=Lib.hid oA4
 have HU4:=Lib.hid oU4
 go_at_call 212
 refine (HCS.out _ (HVR.out.later hb4)).mono ?_
 rintro e w3 ⟨S1,cs1,rfl,oS,hb_w3⟩
 have oA5:=oA4.later hb_w3
 have oU5:=(oU4.mono (B':=w.heap.size + 1 + 1) (by omega)).later hb_w3
 have hBx5:=hBx4.later hb_w3
 have hR5:=hR4.later hb_w3
 have hb5:Below w.heap.size w w3:=hb4.trans (hb_w3.mono hb4.size)
 have oA6:=oA5.far (p:=⟨w.heap.size,3,none⟩) (.inl (by show w.heap.size < w.heap.size + 1 + 1;omega)) (.slice S1 h.l.length cs1)
 have oU6:=oU5.far (p:=⟨w.heap.size,3,none⟩) (.inl (by show w.heap.size < w.heap.size + 1 + 1;omega)) (.slice S1 h.l.length cs1)
 have hBx6:=hBx5.set3 (.slice S1 h.l.length cs1)
 have hR6:=hR5.far (p:=⟨w.heap.size,3,none⟩) (by show w.heap.size ≠ w.heap.size + 1;omega) (.slice S1 h.l.length cs1)
 have hb6:Below w.heap.size w (w3.setCell ⟨w.heap.size,3,none⟩ (.slice S1 h.l.length cs1)):=hb5.setCell (p:=⟨w.heap.size,3,none⟩) (Nat.le_refl _) _
 have hs36:=hb_w3.size
 have oS6:(w3.setCell ⟨w.heap.size,3,none⟩ (.slice S1 h.l.length cs1)).ownsRow wb.heap.size 72 8 (.slice S1 h.l.length cs1) h.l.length (flat8 vs0):=oS.kept (grown_setg _ _ _ _) (.inr (by
  intro e
  obtain ⟨_,⟨e1,_⟩ | ⟨q,_,_,e1,e2,_⟩⟩:=id oS
  ·injection e1 with e1;subst e1;cases e
  ·injection e1 with e1;subst e1;simp [Value.ownBlock] at e;omega))
 obtain ⟨b0,b1,b2,b3,f0,f1,f2,f3⟩:=id hBx5
 go_wp2_with fail
 clear b0 b1 b2 b3 f0 f1 f2 f3 hb_w3 hBx5 hR5 hb5 oA5 oU5 hBx4 hR4 hb4 oA4 oU4 oS
 have hs6:wb.heap.size ≤ (w3.setCell ⟨w.heap.size,3,none⟩ (.slice S1 h.l.length cs1)).heap.size:=by rw [World.size_setCell];exact hs36
 obtain ⟨n,hn⟩:∃ n,h.l.length=n:=⟨_,rfl⟩
 generalize w3.setCell ⟨w.heap.size,3,none⟩ (.slice S1 h.l.length cs1)=wS at *
 rw [hn] at HL HLN hBx6 oS6 ⊢
 have hn6:n ≤ 256:=HL.out
 have HN:=Lib.hid hn
 clear hn
 have hR7:=Lib.hid hR6
 have hBx7:=Lib.hid hBx6
 clear hR6
 obtain ⟨b0,b1,b2,b3,f0,f1,f2,f3⟩:=hBx6
 by_cases h0:n=0
 ·subst h0
  have hv:vs0=[]:=List.eq_nil_of_length_eq_zero HLN.out
  subst hv
  go_wp2_with fail
  clear b0 b1 b2 b3 f0 f1 f2 f3
  go_loopw [26] (fun ii wr=>ii=.int .i64 0∧wr=wS) (fun ii _=>0 - (intOf ii).toNat)
  case atStart=>exact ⟨rfl,rfl⟩
  case round=>
   obtain ⟨rfl,rfl⟩:=hrel
   obtain ⟨b0,b1,b2,b3,f0,f1,f2,f3⟩:=hBx7.out
   obtain ⟨r0,r1,r2,r3,t0,t1,t2,t3⟩:=hR7.out
   go_wp2
   have hF:=(((hR7.out.set0 (.slice A1 h.ws.length c1)).set1 (.int .i64 h.n)).set2 (.slice U1 h.us.length cu1)).set3 (.slice S1 0 cs1)
   refine bodyPost_ret (res_hpc rfl rfl hF) rfl ?_
   refine ⟨⟨A1,c1,U1,cu1,S1,cs1⟩,by rw [HN.out],?_,?_⟩
   ·have hO:OwnsH wr (w.heap.size + 1 + 1) ⟨A1,c1,U1,cu1,S1,cs1⟩ h:=⟨oA6,oU6,[],HVS.out,by rw [HN.out];exact (⟨rfl,oS6,fun v hv=>(by cases hv),fun v hv=>(by cases hv)⟩:OwnsS wr wb.heap.size S1 0 cs1 []).mono (by omega)⟩
    exact (((((hO.far (p:=⟨w.heap.size + 1,0,none⟩) (Nat.lt_succ_self _) _).far (p:=⟨w.heap.size + 1,1,none⟩) (Nat.lt_succ_self _) _).far (p:=⟨w.heap.size + 1,2,none⟩) (Nat.lt_succ_self _) _).far (p:=⟨w.heap.size + 1,3,none⟩) (Nat.lt_succ_self _) _)).mono (by omega)
   ·iterate 4 (refine Below.setCell ?_ (by show _ ≤ w.heap.size + 1;omega) _)
    exact hb6
 ·obtain ⟨_,⟨h1,h2⟩ | ⟨g,cap',cur,e,hgB,_⟩⟩:=id oS6
  ·exact absurd h2 h0
  ·injection e with e1 _ e3
   subst e1 e3
   have hgl:g < wS.heap.size:=(oS6.lt g rfl).2
   have HB0:=Lib.hid hgB
   go_wp2_with fail
   clear b0 b1 b2 b3 f0 f1 f2 f3
   go_loopw [26] (fun ii wr=>∃ k:Nat,ii=.int .i64 (k:Nat)∧k ≤ n∧∃ vs:List Sv,CopK wr wb.heap.size g n cs1 vs0 vs k∧g < wr.heap.size∧Below wb.heap.size wS wr) (fun ii _=>n - (intOf ii).toNat)
   case atStart=>exact ⟨0,rfl,Nat.zero_le _,vs0,⟨HLN.out,rfl,fun j hj _=>List.getElem?_eq_getElem hj,oS6,fun j hj hj0=>by omega⟩,hgl,Below.refl _ _⟩
   case round=>
    clear oS6 hgl
    obtain ⟨k,rfl,hk,vs,hK,hgl,hbS⟩:=hrel
    have hsS:=hbS.size
    have hbw:Below w.heap.size w wr:=hb6.trans (hbS.mono hwb)
    have hswr:w.heap.size ≤ wr.heap.size:=hbw.size
    obtain ⟨b0,b1,b2,b3,f0,f1,f2,f3⟩:=hBx7.out.below hbS (by omega)
    by_cases hlt:k < n
    ·have hkl:k < vs.length:=by rw [hK.len];exact hlt
     have hrest:=hK.rest k hkl (Nat.le_refl _)
     have hmem:vs[k] ∈ vs0:=List.mem_of_getElem? hrest
     obtain ⟨la,lm⟩:=HW.out _ hmem
     obtain ⟨ra,rm⟩:=HRS.out _ hmem
     have c8:=sp8_of_owns hK.row_ hK.len k hlt
     obtain ⟨xa,hxa⟩:=len_one la
     obtain ⟨xm,hxm⟩:=len_one lm
     have q4:=c8.c4
     have q6:=c8.c6
     rw [la,Nat.zero_add] at q4
     rw [lm,Nat.zero_add] at q6
     rw [hxa] at ra
     rw [hxm] at rm
     have fz:=fun i=>hK.row_.frozenAt i
     have g4:=fz (k * 8 + 4)
     have g6:=fz (k * 8 + 6)
     have HK:=Lib.hid hK
     obtain ⟨x,HV⟩:∃ x,Hid (vs[k]=x):=⟨vs[k],Lib.hid rfl⟩
     rw [HV.out] at ra rm q4 q6 hxa hxm
     have HXA:=Lib.hid hxa
     have HXM:=Lib.hid hxm
     have ra:=ra.later hbw
     clear hK fz c8 hmem hrest la lm hxa hxm
     obtain ⟨d,A,ca,M,cm⟩:=x
     simp only at *
     have i1:(k:Int) < (n:Int):=by omega
     have i2:(0:Int) ≤ (k:Int):=by omega
     go_wp2_with fail
     go_at_call 205
     refine (wclone1 ra).mono ?_
     rintro e w5 ⟨A5,c5,rfl,o5,hb_w5⟩
     have hs5:=hb_w5.size
     have p4:w5.cell? ⟨g,k * 8 + 4,none⟩=some (.slice A 1 ca):=(hb_w5.cell (p:=⟨g,k * 8 + 4,none⟩) hgl).trans q4
     have g4':w5.frozen? ⟨g,k * 8 + 4,none⟩=false:=((bcell hb_w5).2 _ _ hgl).trans g4
     have p6:w5.cell? ⟨g,k * 8 + 6,none⟩=some (.slice M 1 cm):=(hb_w5.cell (p:=⟨g,k * 8 + 6,none⟩) hgl).trans q6
     have g6':w5.frozen? ⟨g,k * 8 + 6,none⟩=false:=((bcell hb_w5).2 _ _ hgl).trans g6
     have bS5:Below wb.heap.size wS w5:=hbS.trans (hb_w5.mono (by omega))
     have b5:Below w.heap.size w w5:=hbw.trans (hb_w5.mono hswr)
     have ro5:=((owns_laterN HK.out.row_ hb_w5).stored (k * 8 + 4) (.slice A5 1 c5)).1
     have wo5:∀ j (hj:j < vs.length),j < k → Own (w5.setCell ⟨g,k * 8 + 4,none⟩ (.slice A5 1 c5)) (g + 1) vs[j].A vs[j].d.aw∧Own (w5.setCell ⟨g,k * 8 + 4,none⟩ (.slice A5 1 c5)) (g + 1) vs[j].M vs[j].d.mw:=fun j hj hjk=>
      ⟨((HK.out.words j hj hjk).1.later hb_w5).far (.inl (Nat.lt_succ_self g)) _,((HK.out.words j hj hjk).2.later hb_w5).far (.inl (Nat.lt_succ_self g)) _⟩
     have o5':Own (w5.setCell ⟨g,k * 8 + 4,none⟩ (.slice A5 1 c5)) (g + 1) A5 [xa]:=(o5.own.mono (by omega)).far (.inl (Nat.lt_succ_self g)) _
     have bS6:Below wb.heap.size wS (w5.setCell ⟨g,k * 8 + 4,none⟩ (.slice A5 1 c5)):=bS5.setCell (p:=⟨g,k * 8 + 4,none⟩) HB0.out _
     have b6:Below w.heap.size w (w5.setCell ⟨g,k * 8 + 4,none⟩ (.slice A5 1 c5)):=b5.setCell (p:=⟨g,k * 8 + 4,none⟩) (Nat.le_trans hwb HB0.out) _
     have rm6:=rm.later b6
     have p6':(w5.setCell ⟨g,k * 8 + 4,none⟩ (.slice A5 1 c5)).cell? ⟨g,k * 8 + 6,none⟩=some (.slice M 1 cm):=(cO _ _ _ _ (by intro e;injection e;omega)).trans p6
     have g6'':(w5.setCell ⟨g,k * 8 + 4,none⟩ (.slice A5 1 c5)).frozen? ⟨g,k * 8 + 6,none⟩=false:=by rw [World.frozen?_setCell];exact g6'
     have hg5:g < (w5.setCell ⟨g,k * 8 + 4,none⟩ (.slice A5 1 c5)).heap.size:=by rw [World.size_setCell];omega
     have hz5:w.heap.size ≤ (w5.setCell ⟨g,k * 8 + 4,none⟩ (.slice A5 1 c5)).heap.size:=by rw [World.size_setCell];omega
     have hzb5:wb.heap.size ≤ (w5.setCell ⟨g,k * 8 + 4,none⟩ (.slice A5 1 c5)).heap.size:=by rw [World.size_setCell];omega
     clear q4 q6 g4 g6 ra rm o5 p6 g6' b5 bS5 b0 b1 b2 b3 f0 f1 f2 f3
     obtain ⟨b0,b1,b2,b3,f0,f1,f2,f3⟩:=hBx7.out.below bS6 (by omega)
     go_wp2_with fail
     generalize w5.setCell ⟨g,k * 8 + 4,none⟩ (.slice A5 1 c5)=w6 at *
     go_at_call 205
     refine (wclone1 rm6).mono ?_
     rintro e w7 ⟨A7,c7,rfl,o7,hb_w7⟩
     have hs7:=hb_w7.size
     have p7:w7.cell? ⟨g,k * 8 + 6,none⟩=some (.slice M 1 cm):=(hb_w7.cell (p:=⟨g,k * 8 + 6,none⟩) hg5).trans p6'
     have g7:w7.frozen? ⟨g,k * 8 + 6,none⟩=false:=((bcell hb_w7).2 _ _ hg5).trans g6''
     have bS7:Below wb.heap.size wS w7:=bS6.trans (hb_w7.mono hzb5)
     have ro7:=((owns_laterN ro5 hb_w7).stored (k * 8 + 6) (.slice A7 1 c7)).1
     have hset:((flat8 vs).set (k * 8 + 4) (.slice A5 1 c5)).set (k * 8 + 6) (.slice A7 1 c7)=flat8 (vs.set k ⟨d,A5,c5,A7,c7⟩):=by
      have e1:=flat8_set vs k 4 ⟨d,A5,c5,M,cm⟩ (.slice A5 1 c5) hkl (by omega) (by rw [HV.out];simp [cells8,HXA.out])
      have e2:=flat8_set (vs.set k ⟨d,A5,c5,M,cm⟩) k 6 ⟨d,A5,c5,A7,c7⟩ (.slice A7 1 c7) (by rw [List.length_set];exact hkl) (by omega) (by rw [List.getElem_set_self];simp [cells8,HXM.out])
      rw [e1,e2,List.set_set]
     rw [hset] at ro7
     have HNX:Hid (CopK (w7.setCell ⟨g,k * 8 + 6,none⟩ (.slice A7 1 c7)) wb.heap.size g n cs1 vs0 (vs.set k ⟨d,A5,c5,A7,c7⟩) (k + 1)):=Lib.hid (CopK.next HK.out.len HK.out.same HK.out.rest hlt ⟨d,A5,c5,A7,c7⟩ (by rw [HV.out]) ro7
      (fun j hj hjk=>⟨((wo5 j hj hjk).1.later hb_w7).far (.inl (Nat.lt_succ_self g)) _,((wo5 j hj hjk).2.later hb_w7).far (.inl (Nat.lt_succ_self g)) _⟩)
      (by show Own _ _ A5 d.aw;rw [HXA.out];exact (o5'.later hb_w7).far (.inl (Nat.lt_succ_self g)) _) (by show Own _ _ A7 d.mw;rw [HXM.out];exact (o7.own.mono (by omega)).far (.inl (Nat.lt_succ_self g)) _))
     have bS8:Below wb.heap.size wS (w7.setCell ⟨g,k * 8 + 6,none⟩ (.slice A7 1 c7)):=bS7.setCell (p:=⟨g,k * 8 + 6,none⟩) HB0.out _
     clear wo5 o5' ro5 ro7 hset o7 b6 bS7 bS6 HK p6' g6'' b0 b1 b2 b3 f0 f1 f2 f3
     go_wp2
     go_roundw
     case rel=>exact ⟨k + 1,by go_num,by omega,_,HNX.out,by rw [World.size_setCell];omega,bS8⟩
     case measure=>simp [intOf];omega
    ·obtain rfl:k=n:=by omega
     have HE:=Lib.hid (hK.end_ HB0.out (fun v hv=>HW.out v hv))
     have HS:=Lib.hid hK.same
     have HLn:=Lib.hid hK.len
     clear hK
     have hR8:=hR7.out.below hbS (by omega)
     have oA7:=oA6.belowC HA4.out hbS
     have oU7:=oU6.belowC HU4.out hbS
     obtain ⟨r0,r1,r2,r3,t0,t1,t2,t3⟩:=id hR8
     go_wp2
     have hF:=(((hR8.set0 (.slice A1 h.ws.length c1)).set1 (.int .i64 h.n)).set2 (.slice U1 h.us.length cu1)).set3 (.slice (some ⟨g,0,none⟩) k cs1)
     refine bodyPost_ret (res_hpc rfl rfl hF) rfl ?_
     refine ⟨⟨A1,c1,U1,cu1,some ⟨g,0,none⟩,cs1⟩,by rw [HN.out],?_,?_⟩
     ·have hO:OwnsH wr (w.heap.size + 1 + 1) ⟨A1,c1,U1,cu1,some ⟨g,0,none⟩,cs1⟩ h:=⟨oA7,oU7,vs,by rw [HS.out];exact HVS.out,by rw [HN.out];exact HE.out.mono (by omega)⟩
      exact (((((hO.far (p:=⟨w.heap.size + 1,0,none⟩) (Nat.lt_succ_self _) _).far (p:=⟨w.heap.size + 1,1,none⟩) (Nat.lt_succ_self _) _).far (p:=⟨w.heap.size + 1,2,none⟩) (Nat.lt_succ_self _) _).far (p:=⟨w.heap.size + 1,3,none⟩) (Nat.lt_succ_self _) _)).mono (by omega)
     ·iterate 4 (refine Below.setCell ?_ (by show _ ≤ w.heap.size + 1;omega) _)
      exact hbw
section
variable {w:World} {b:Nat} {v0 v1 v2 v3 v4 v5 v6 v7:Value}
theorem res_sw1 {fn:Func} {p:Tmp} (h:fn.results=#[.cell p 192]) {tmps:Array Value} (hp:tmps.getD p undef=.pointer (some ⟨b,0,none⟩)) (c:E8 w b v0 v1 v2 v3 v4 v5 v6 v7):(results fn tmps).run Tryz.prog w=.ok (.agg #[v0,v1,v2,v3,v4,v5,v6,v7]) w:=by
 obtain ⟨h0,h1,h2,h3,h4,h5,h6,h7,_⟩:=c
 have hp2:tmps[p]?.getD undef=.pointer (some ⟨b,0,none⟩):=by rw [← hp];simp
 simp only [results,h]
 simp [go_sem,Result.andThen,h0,h1,h2,h3,h4,h5,h6,h7,asAddr,hp2]
theorem res_sw2 {fn:Func} {p u:Tmp} (h:fn.results=#[.cell p 192,.tmp u]) {tmps:Array Value} (hp:tmps.getD p undef=.pointer (some ⟨b,0,none⟩)) (c:E8 w b v0 v1 v2 v3 v4 v5 v6 v7):(results fn tmps).run Tryz.prog w=.ok (.tuple #[.agg #[v0,v1,v2,v3,v4,v5,v6,v7],tmps.getD u undef]) w:=by
 obtain ⟨h0,h1,h2,h3,h4,h5,h6,h7,_⟩:=c
 have hp2:tmps[p]?.getD undef=.pointer (some ⟨b,0,none⟩):=by rw [← hp];simp
 simp only [results,h]
 simp [go_sem,Result.andThen,h0,h1,h2,h3,h4,h5,h6,h7,asAddr,hp2]
theorem res_ss2 {fn:Func} {p u:Tmp} (h:fn.results=#[.cell p 79,.tmp u]) {tmps:Array Value} (hp:tmps.getD p undef=.pointer (some ⟨b,0,none⟩)) (c:E8 w b v0 v1 v2 v3 v4 v5 v6 v7):(results fn tmps).run Tryz.prog w=.ok (.tuple #[.agg #[v0,v1,v2,v3,v4,v5,v6,v7],tmps.getD u undef]) w:=by
 obtain ⟨h0,h1,h2,h3,h4,h5,h6,h7,_⟩:=c
 have hp2:tmps[p]?.getD undef=.pointer (some ⟨b,0,none⟩):=by rw [← hp];simp
 simp only [results,h]
 simp [go_sem,Result.andThen,h0,h1,h2,h3,h4,h5,h6,h7,asAddr,hp2]
theorem res_ss3 {fn:Func} {p u x:Tmp} (h:fn.results=#[.cell p 79,.tmp u,.tmp x]) {tmps:Array Value} (hp:tmps.getD p undef=.pointer (some ⟨b,0,none⟩)) (c:E8 w b v0 v1 v2 v3 v4 v5 v6 v7):(results fn tmps).run Tryz.prog w=.ok (.tuple #[.agg #[v0,v1,v2,v3,v4,v5,v6,v7],tmps.getD u undef,tmps.getD x undef]) w:=by
 obtain ⟨h0,h1,h2,h3,h4,h5,h6,h7,_⟩:=c
 have hp2:tmps[p]?.getD undef=.pointer (some ⟨b,0,none⟩):=by rw [← hp];simp
 simp only [results,h]
 simp [go_sem,Result.andThen,h0,h1,h2,h3,h4,h5,h6,h7,asAddr,hp2]
end
section
variable {w:World} {n m:Int} {A C:Option Addr} {ws us:List Nat} (cap cap':Nat)
theorem both_ok2 (e:n=m) (hr:Row w w.heap.size A ws) (hs:Row w w.heap.size C us) (h:Right n ws) (h':Right n us) :
  Calls Tryz.prog 193 #[.agg #[.int .i64 n,.slice A ws.length cap],.agg #[.int .i64 m,.slice C us.length cap']] w fun e w'=>Fresh w n (bothTo ws us us.length) 0 e w':=by
 subst e
 exact both_ok cap cap' hr hs h h'
theorem both_bad (hr:Row w w.heap.size A ws) (hs:Row w w.heap.size C us) (h':Right m us) (hb:¬ (Right n ws∧n=m)) :
  Calls Tryz.prog 193 #[.agg #[.int .i64 n,.slice A ws.length cap],.agg #[.int .i64 m,.slice C us.length cap']] w fun e w'=>Fresh w 0 [] 2 e w':=by
 by_cases h:Right n ws
 ·exact both_len cap cap' hr hs h h' fun e=>hb ⟨h,e⟩
 ·exact both_bad1 cap cap' hr h
theorem fcount_any (hr:Row w w.heap.size A ws) (h:Right n ws):Calls Tryz.prog 204 #[.agg #[.int .i64 n,.slice A ws.length cap]] w fun e w'=>e=.returned (.int .i64 (countTo ws n.toNat:Nat))∧Below w.heap.size w w':=by
 have hR:=Lib.hid h
 clear h
 go_enter Tryz.func204,Tryz.ntmps204
 go_wp2_with fail
 go_at_call 67
 refine (count_ok cap (hr.later bX) hR.out).mono ?_
 rintro e w1 ⟨rfl,hb_w1⟩
 obtain ⟨hc_w1,hf_w1⟩:=bcell hb_w1;have hz_w1_w_0:w.heap.size < w1.heap.size:=lY hb_w1.size;have hs_w1:=hb_w1.size;(try simp only [zZ] at hs_w1)
 go_wp2
 go_ret
 exact ⟨rfl,bX⟩
end
section
variable {w:World} {v:Hv} {O:Option Addr} {s:Sc} (co:Nat)
set_option maxHeartbeats 1000000 in
theorem fmissing_ok (m:SM w v O s) (hk:OkS s) :
  Calls Tryz.prog 203 #[scV v O co s] w fun e w'=>Fresh w s.n (misW s) 0 e w':=by
 have HB:=Lib.hid fun (w:World) hr hs=>both_ok2 (n:=s.n) (m:=s.h.n) (A:=O) (ws:=s.os) (C:=v.U) (us:=s.h.us) (w:=w) co v.cu hk.n hr hs hk.o hk.us
 clear hk
 unfold misW
 unfold Fresh at HB ⊢
 unfold scV
 go_enter Tryz.func203,Tryz.ntmps203
 go_wp2_with fail
 go_at_call 193
 refine (HB.out _ (m.o.later bX) (m.h.u.later bX)).mono ?_
 rintro e w1 ⟨A1,c1,rfl,o1,hb_w1⟩
 obtain ⟨hc_w1,hf_w1⟩:=bcell hb_w1;have hz_w1_w_0:w.heap.size < w1.heap.size:=lY hb_w1.size;have hz_w1_w_1:w.heap.size + 1 < w1.heap.size:=lY hb_w1.size;have hs_w1:=hb_w1.size;(try simp only [zZ] at hs_w1)
 have t2:Two w1 (w.heap.size + 1) _ _:=(Two.new1 w _ _ _ _).below hb_w1 lX
 obtain ⟨y0,y1,yf⟩:=id t2
 go_wp2
 exact bodyPost_ret (res_bits rfl rfl (t2.set_ _ _).c0 (t2.set_ _ _).c1) rfl ⟨A1,c1,rfl,(o1.two (g:=w.heap.size + 1) lX).mono lX,bX⟩
set_option maxHeartbeats 1000000 in
theorem fmissing_bad (m:SM w v O s) (hk:OkH s.h) (hb:¬ (Right s.n s.os∧s.n=s.h.n)) :
  Calls Tryz.prog 203 #[scV v O co s] w fun e w'=>Fresh w 0 [] 2 e w':=by
 have HB:=Lib.hid fun (w:World) hr hs=>both_bad (n:=s.n) (m:=s.h.n) (A:=O) (ws:=s.os) (C:=v.U) (us:=s.h.us) (w:=w) co v.cu hr hs hk.framed.pages hb
 clear hk hb
 skip
 unfold Fresh at HB ⊢
 unfold scV
 go_enter Tryz.func203,Tryz.ntmps203
 go_wp2_with fail
 go_at_call 193
 refine (HB.out _ (m.o.later bX) (m.h.u.later bX)).mono ?_
 rintro e w1 ⟨A1,c1,rfl,o1,hb_w1⟩
 obtain ⟨hc_w1,hf_w1⟩:=bcell hb_w1;have hz_w1_w_0:w.heap.size < w1.heap.size:=lY hb_w1.size;have hz_w1_w_1:w.heap.size + 1 < w1.heap.size:=lY hb_w1.size;have hs_w1:=hb_w1.size;(try simp only [zZ] at hs_w1)
 have t2:Two w1 (w.heap.size + 1) _ _:=(Two.new1 w _ _ _ _).below hb_w1 lX
 obtain ⟨y0,y1,yf⟩:=id t2
 go_wp2
 exact bodyPost_ret (res_bits rfl rfl (t2.set_ _ _).c0 (t2.set_ _ _).c1) rfl ⟨A1,c1,rfl,(o1.two (g:=w.heap.size + 1) lX).mono lX,bX⟩
set_option maxHeartbeats 1000000 in
theorem fmissing_in (m:SM w v O s) (ho:Right s.n s.os) (hu:Right s.n s.h.us) (hn:s.n=s.h.n) :
  Calls Tryz.prog 203 #[scV v O co s] w fun e w'=>Fresh w s.n (misW s) 0 e w':=by
 have HB:=Lib.hid fun (w:World) hr hs=>both_ok2 (n:=s.n) (m:=s.h.n) (A:=O) (ws:=s.os) (C:=v.U) (us:=s.h.us) (w:=w) co v.cu hn hr hs ho hu
 clear ho hu hn
 unfold misW
 unfold Fresh at HB ⊢
 unfold scV
 go_enter Tryz.func203,Tryz.ntmps203
 go_wp2_with fail
 go_at_call 193
 refine (HB.out _ (m.o.later bX) (m.h.u.later bX)).mono ?_
 rintro e w1 ⟨A1,c1,rfl,o1,hb_w1⟩
 obtain ⟨hc_w1,hf_w1⟩:=bcell hb_w1;have hz_w1_w_0:w.heap.size < w1.heap.size:=lY hb_w1.size;have hz_w1_w_1:w.heap.size + 1 < w1.heap.size:=lY hb_w1.size;have hs_w1:=hb_w1.size;(try simp only [zZ] at hs_w1)
 have t2:Two w1 (w.heap.size + 1) _ _:=(Two.new1 w _ _ _ _).below hb_w1 lX
 obtain ⟨y0,y1,yf⟩:=id t2
 go_wp2
 exact bodyPost_ret (res_bits rfl rfl (t2.set_ _ _).c0 (t2.set_ _ _).c1) rfl ⟨A1,c1,rfl,(o1.two (g:=w.heap.size + 1) lX).mono lX,bX⟩
set_option maxHeartbeats 1000000 in
theorem fused_any (m:SM w v O s) (hk:OkS s) :
  Calls Tryz.prog 142 #[scV v O co s] w fun e w'=>e=.returned (.int .i64 (countTo s.h.us s.n.toNat:Nat))∧Below w.heap.size w w':=by
 have HC:=Lib.hid fun (w:World) hr=>fcount_any (w:=w) (n:=s.h.n) (A:=v.U) (ws:=s.h.us) v.cu hr hk.h.framed.pages
 rw [hk.n]
 clear hk
 unfold scV
 go_enter Tryz.func142,Tryz.ntmps142
 go_wp2_with fail
 go_at_call 204
 refine (HC.out _ (m.h.u.later bX)).mono ?_
 rintro e w1 ⟨rfl,hb_w1⟩
 obtain ⟨hc_w1,hf_w1⟩:=bcell hb_w1;have hz_w1_w_0:w.heap.size < w1.heap.size:=lY hb_w1.size;have hs_w1:=hb_w1.size;(try simp only [zZ] at hs_w1)
 go_wp2
 go_ret
 exact ⟨rfl,bX⟩
set_option maxHeartbeats 1000000 in
theorem fpresent_any (m:SM w v O s) (hk:OkS s) :
  Calls Tryz.prog 140 #[scV v O co s] w fun e w'=>e=.returned (.int .i64 (s.n - (countTo s.os s.n.toNat:Nat)))∧Below w.heap.size w w':=by
 have HC:=Lib.hid fun (w:World) hr=>fcount_any (w:=w) (n:=s.n) (A:=O) (ws:=s.os) co hr hk.o
 obtain ⟨n0,n1,n2⟩:=hk.nn
 have hcl:=countTo_le s.os s.n.toNat
 clear hk
 generalize countTo s.os s.n.toNat=q at *
 have hwr:IntKind.i64.wrap (s.n - (q:Int))=s.n - (q:Int):=IntWalk.i64_in _ (by omega)
 unfold scV
 go_enter Tryz.func140,Tryz.ntmps140
 go_wp2_with fail
 go_region_with (go_at_call 204;refine (HC.out _ (m.o.later bX)).mono ?_;rintro e w1 ⟨rfl,hb_w1⟩;obtain ⟨hc_w1,hf_w1⟩:=bcell hb_w1;have hz_w1_w_0:w.heap.size < w1.heap.size:=lY hb_w1.size;have hs_w1:=hb_w1.size;(try simp only [zZ] at hs_w1))
 all_goals (try go_wp2)
 all_goals (try go_ret)
 all_goals (refine ⟨?_,bX⟩)
 all_goals (first | rfl | (simp only [Act.put,List.getElem_toArray,List.getElem_cons_zero,List.getElem_cons_succ,List.setIfInBounds_toArray,List.set_cons_zero,List.set_cons_succ,hwr];rfl))
set_option maxHeartbeats 1000000 in
theorem fspare_any (m:SM w v O s) (hk:OkS s) (i:Nat) (hi:(i:Int) < s.n) :
  Calls Tryz.prog 207 #[scV v O co s,.int .i64 (i:Nat)] w fun e w'=>e=.returned (.bool (!tb s.h.us i && !tb s.os i))∧Below w.heap.size w w':=by
 have HU:=Lib.hid fun (w:World) hr=>get_in (w:=w) (n:=s.h.n) (A:=v.U) (ws:=s.h.us) (i:=(i:Int)) (cap:=v.cu) hr hk.h.framed.pages (by omega) (by rw [← hk.n];exact hi)
 have HO:=Lib.hid fun (w:World) hr=>get_in (w:=w) (n:=s.n) (A:=O) (ws:=s.os) (i:=(i:Int)) (cap:=co) hr hk.o (by omega) hi
 simp only [Int.toNat_natCast] at HU HO
 clear hk
 unfold scV
 generalize tb s.h.us i=bu at *
 generalize tb s.os i=bo at *
 go_enter Tryz.func207,Tryz.ntmps207
 go_wp2_with fail
 go_at_call 241
 refine (HU.out _ (m.h.u.later bX)).mono ?_
 rintro e w1 ⟨rfl,hb_w1⟩
 obtain ⟨hc_w1,hf_w1⟩:=bcell hb_w1;have hz_w1_w_0:w.heap.size < w1.heap.size:=lY hb_w1.size;have hs_w1:=hb_w1.size;(try simp only [zZ] at hs_w1)
 go_wp2_with fail
 go_at_call 241
 refine (HO.out _ (m.o.later bX)).mono ?_
 rintro e w2 ⟨rfl,hb_w2⟩
 obtain ⟨hc_w2,hf_w2⟩:=bcell hb_w2;have hz_w2_w_0:w.heap.size < w2.heap.size:=lY hb_w2.size;have hs_w2:=hb_w2.size;(try simp only [zZ] at hs_w2)
 cases bu <;> cases bo
 all_goals go_wp2
 all_goals go_ret
 all_goals exact ⟨rfl,bX⟩
set_option maxHeartbeats 2000000 in
theorem fview_ok (hz:Sizes w) (m:SM w v O s) (hk:OkS s) :
  Calls Tryz.prog 134 #[scV v O co s] w fun e w'=>e=.returned (.tuple #[scV v O co s,.int .i64 0])∧Below w.heap.size w w':=by
 have HC:=Lib.hid fun (w:World) z m=>zcheck_any (w:=w) (v:=v) (h:=s.h) z m hk.h.lens.1 hk.h.lens.2 0 (.inl ⟨hk.h,rfl⟩)
 have HMI:=Lib.hid fun (w:World) m=>fmissing_ok (w:=w) (v:=v) (O:=O) (s:=s) co m hk
 have hms:Right s.n (misW s):=right_both hk.o hk.len
 have HCO:=Lib.hid fun (w:World) (A:Option Addr) (c:Nat) hr=>fcount_any (w:=w) (n:=s.n) (A:=A) (ws:=misW s) c hr hms
 rw [hk.m] at HCO
 clear hk hms
 unfold Fresh at HMI
 unfold scV at HMI ⊢
 unfold hpV hpv at HC
 generalize misW s=ms at *
 go_enter Tryz.func134,Tryz.ntmps134
 go_wp2_with fail
 go_at_call 21
 refine (HC.out _ (hz.later bX) (m.h.later bX)).mono ?_
 rintro e w1 ⟨rfl,hb_w1⟩
 obtain ⟨hc_w1,hf_w1⟩:=bcell hb_w1;have hz_w1_w_0:w.heap.size < w1.heap.size:=lY hb_w1.size;have hz_w1_w_1:w.heap.size + 1 < w1.heap.size:=lY hb_w1.size;have hz_w1_w_2:w.heap.size + 2 < w1.heap.size:=lY hb_w1.size;have hs_w1:=hb_w1.size;(try simp only [zZ] at hs_w1)
 have b1:Below w.heap.size w w1:=bX
 have t0:=((E8.new (w.alloc (.cells #[.slice v.A s.h.ws.length v.ca,.int .i64 s.h.n,.slice v.U s.h.us.length v.cu,.slice v.V s.h.l.length v.cv,.int .i64 s.n,.slice O s.os.length co,.int .u64 (s.fa:Nat),.int .u64 (s.go:Nat)] 79)) (.slice none 0 0) (.int .i64 0) (.slice none 0 0) (.slice none 0 0) (.int .i64 0) (.slice none 0 0) (.int .u64 0) (.int .u64 0) 192).later ((Below.refl _ _).alloc (Nat.le_refl _) (.cells #[.slice v.A s.h.ws.length v.ca,.int .i64 s.h.n,.slice v.U s.h.us.length v.cu,.slice v.V s.h.l.length v.cv,.int .i64 s.n,.slice O s.os.length co,.int .u64 (s.fa:Nat),.int .u64 (s.go:Nat)] 192))).later hb_w1
 have t1:=(E8.new (w.alloc (.cells #[.slice v.A s.h.ws.length v.ca,.int .i64 s.h.n,.slice v.U s.h.us.length v.cu,.slice v.V s.h.l.length v.cv,.int .i64 s.n,.slice O s.os.length co,.int .u64 (s.fa:Nat),.int .u64 (s.go:Nat)] 79) |>.alloc (.cells #[.slice none 0 0,.int .i64 0,.slice none 0 0,.slice none 0 0,.int .i64 0,.slice none 0 0,.int .u64 0,.int .u64 0] 192)) (.slice v.A s.h.ws.length v.ca) (.int .i64 s.h.n) (.slice v.U s.h.us.length v.cu) (.slice v.V s.h.l.length v.cv) (.int .i64 s.n) (.slice O s.os.length co) (.int .u64 (s.fa:Nat)) (.int .u64 (s.go:Nat)) 192).later hb_w1
 simp only [zA] at t0 t1
 clear hc_w1 hf_w1
 obtain ⟨x0,x1,x2,x3,x4,x5,x6,x7,xf⟩:=id t1
 go_wp2_with fail
 go_at_call 203
 refine (HMI.out _ (m.later b1)).mono ?_
 rintro e w2 ⟨A2,c2,rfl,o2,hb_w2⟩
 obtain ⟨hc_w2,hf_w2⟩:=bcell hb_w2;have hz_w2_w_0:w.heap.size < w2.heap.size:=lY hb_w2.size;have hz_w2_w_1:w.heap.size + 1 < w2.heap.size:=lY hb_w2.size;have hz_w2_w_2:w.heap.size + 2 < w2.heap.size:=lY hb_w2.size;have hs_w2:=hb_w2.size;(try simp only [zZ] at hs_w2)
 have b2:Below w.heap.size w w2:=bX
 have t0:=t0.later hb_w2
 have t1:=t1.later hb_w2
 clear hc_w2 hf_w2 x0 x1 x2 x3 x4 x5 x6 x7 xf
 have r2:=o2.row
 have s2:=hb_w2.size
 clear o2 hb_w2
 have d2:=Two.new w2 (.int .i64 s.n) (.slice A2 ms.length c2) 26
 have t0:=t0.later ((Below.refl _ _).alloc (Nat.le_refl _) (.cells #[.int .i64 s.n,.slice A2 ms.length c2] 26))
 have t1:=t1.later ((Below.refl _ _).alloc (Nat.le_refl _) (.cells #[.int .i64 s.n,.slice A2 ms.length c2] 26))
 have b3:Below w.heap.size w (w2.alloc (.cells #[.int .i64 s.n,.slice A2 ms.length c2] 26)):=bX
 go_wp2_with fail
 go_at_call 204
 refine (HCO.out _ _ _ (r2.later bX)).mono ?_
 rintro e w3 ⟨rfl,hb_w3⟩
 obtain ⟨hc_w3,hf_w3⟩:=bcell hb_w3;have hz_w3_w2_0:w2.heap.size < w3.heap.size:=lY hb_w3.size;have hs_w3:=hb_w3.size;(try simp only [zZ] at hs_w3)
 have b4:Below w.heap.size w w3:=b3.trans (hb_w3.mono b3.size)
 have t0:=t0.later hb_w3
 have t1:=t1.later hb_w3
 clear hc_w3 hf_w3
 obtain ⟨x0,x1,x2,x3,x4,x5,x6,x7,xf⟩:=id t1
 obtain ⟨y0,y1,y2,y3,y4,y5,y6,y7,yf⟩:=id t0
 go_wp2
 exact bodyPost_ret (res_sw2 rfl rfl (t0.all _ _ _ _ _ _ _ _)) rfl ⟨rfl,below8 b4 lX _ _ _ _ _ _ _ _⟩
end
section
variable {w:World} {v:Hv} {O:Option Addr} {s:Sc} (co:Nat)
set_option maxHeartbeats 2000000 in
theorem fview_bad1 (hz:Sizes w) (m:SM w v O s) (hs:Short s.h) (hk:¬ OkH s.h) :
  Calls Tryz.prog 134 #[scV v O co s] w fun e w'=>e=.returned (.tuple #[scV hv0 none 0 sc0,.int .i64 2])∧Below w.heap.size w w':=by
 have HC:=Lib.hid fun (w:World) z m=>zcheck_any (w:=w) (v:=v) (h:=s.h) z m (by have:=hs.l;omega) hs.ws 2 (.inr ⟨hk,rfl⟩)
 clear hk hs
 unfold scV
 unfold hpV hpv at HC
 go_enter Tryz.func134,Tryz.ntmps134
 go_wp2_with fail
 go_at_call 21
 refine (HC.out _ (hz.later bX) (m.h.later bX)).mono ?_
 rintro e w1 ⟨rfl,hb_w1⟩
 obtain ⟨hc_w1,hf_w1⟩:=bcell hb_w1;have hz_w1_w_0:w.heap.size < w1.heap.size:=lY hb_w1.size;have hz_w1_w_1:w.heap.size + 1 < w1.heap.size:=lY hb_w1.size;have hz_w1_w_2:w.heap.size + 2 < w1.heap.size:=lY hb_w1.size;have hs_w1:=hb_w1.size;(try simp only [zZ] at hs_w1)
 have b1:Below w.heap.size w w1:=bX
 have t0:=((E8.new (w.alloc (.cells #[.slice v.A s.h.ws.length v.ca,.int .i64 s.h.n,.slice v.U s.h.us.length v.cu,.slice v.V s.h.l.length v.cv,.int .i64 s.n,.slice O s.os.length co,.int .u64 (s.fa:Nat),.int .u64 (s.go:Nat)] 79)) (.slice none 0 0) (.int .i64 0) (.slice none 0 0) (.slice none 0 0) (.int .i64 0) (.slice none 0 0) (.int .u64 0) (.int .u64 0) 192).later ((Below.refl _ _).alloc (Nat.le_refl _) (.cells #[.slice v.A s.h.ws.length v.ca,.int .i64 s.h.n,.slice v.U s.h.us.length v.cu,.slice v.V s.h.l.length v.cv,.int .i64 s.n,.slice O s.os.length co,.int .u64 (s.fa:Nat),.int .u64 (s.go:Nat)] 192))).later hb_w1
 have t1:=(E8.new (w.alloc (.cells #[.slice v.A s.h.ws.length v.ca,.int .i64 s.h.n,.slice v.U s.h.us.length v.cu,.slice v.V s.h.l.length v.cv,.int .i64 s.n,.slice O s.os.length co,.int .u64 (s.fa:Nat),.int .u64 (s.go:Nat)] 79) |>.alloc (.cells #[.slice none 0 0,.int .i64 0,.slice none 0 0,.slice none 0 0,.int .i64 0,.slice none 0 0,.int .u64 0,.int .u64 0] 192)) (.slice v.A s.h.ws.length v.ca) (.int .i64 s.h.n) (.slice v.U s.h.us.length v.cu) (.slice v.V s.h.l.length v.cv) (.int .i64 s.n) (.slice O s.os.length co) (.int .u64 (s.fa:Nat)) (.int .u64 (s.go:Nat)) 192).later hb_w1
 simp only [zA] at t0 t1
 clear hc_w1 hf_w1
 obtain ⟨y0,y1,y2,y3,y4,y5,y6,y7,yf⟩:=id t0
 go_wp2
 exact bodyPost_ret (res_sw2 rfl rfl (t0.all _ _ _ _ _ _ _ _)) rfl ⟨rfl,below8 b1 lX _ _ _ _ _ _ _ _⟩
set_option maxHeartbeats 2000000 in
theorem fview_bad2 (hz:Sizes w) (m:SM w v O s) (hk:OkH s.h) (hb:¬ (Right s.n s.os∧s.n=s.h.n)) :
  Calls Tryz.prog 134 #[scV v O co s] w fun e w'=>e=.returned (.tuple #[scV hv0 none 0 sc0,.int .i64 2])∧Below w.heap.size w w':=by
 have HC:=Lib.hid fun (w:World) z m=>zcheck_any (w:=w) (v:=v) (h:=s.h) z m hk.lens.1 hk.lens.2 0 (.inl ⟨hk,rfl⟩)
 have HMI:=Lib.hid fun (w:World) m=>fmissing_bad (w:=w) (v:=v) (O:=O) (s:=s) co m hk hb
 clear hk hb
 unfold Fresh at HMI
 unfold scV at HMI ⊢
 unfold hpV hpv at HC
 go_enter Tryz.func134,Tryz.ntmps134
 go_wp2_with fail
 go_at_call 21
 refine (HC.out _ (hz.later bX) (m.h.later bX)).mono ?_
 rintro e w1 ⟨rfl,hb_w1⟩
 obtain ⟨hc_w1,hf_w1⟩:=bcell hb_w1;have hz_w1_w_0:w.heap.size < w1.heap.size:=lY hb_w1.size;have hz_w1_w_1:w.heap.size + 1 < w1.heap.size:=lY hb_w1.size;have hz_w1_w_2:w.heap.size + 2 < w1.heap.size:=lY hb_w1.size;have hs_w1:=hb_w1.size;(try simp only [zZ] at hs_w1)
 have b1:Below w.heap.size w w1:=bX
 have t0:=((E8.new (w.alloc (.cells #[.slice v.A s.h.ws.length v.ca,.int .i64 s.h.n,.slice v.U s.h.us.length v.cu,.slice v.V s.h.l.length v.cv,.int .i64 s.n,.slice O s.os.length co,.int .u64 (s.fa:Nat),.int .u64 (s.go:Nat)] 79)) (.slice none 0 0) (.int .i64 0) (.slice none 0 0) (.slice none 0 0) (.int .i64 0) (.slice none 0 0) (.int .u64 0) (.int .u64 0) 192).later ((Below.refl _ _).alloc (Nat.le_refl _) (.cells #[.slice v.A s.h.ws.length v.ca,.int .i64 s.h.n,.slice v.U s.h.us.length v.cu,.slice v.V s.h.l.length v.cv,.int .i64 s.n,.slice O s.os.length co,.int .u64 (s.fa:Nat),.int .u64 (s.go:Nat)] 192))).later hb_w1
 have t1:=(E8.new (w.alloc (.cells #[.slice v.A s.h.ws.length v.ca,.int .i64 s.h.n,.slice v.U s.h.us.length v.cu,.slice v.V s.h.l.length v.cv,.int .i64 s.n,.slice O s.os.length co,.int .u64 (s.fa:Nat),.int .u64 (s.go:Nat)] 79) |>.alloc (.cells #[.slice none 0 0,.int .i64 0,.slice none 0 0,.slice none 0 0,.int .i64 0,.slice none 0 0,.int .u64 0,.int .u64 0] 192)) (.slice v.A s.h.ws.length v.ca) (.int .i64 s.h.n) (.slice v.U s.h.us.length v.cu) (.slice v.V s.h.l.length v.cv) (.int .i64 s.n) (.slice O s.os.length co) (.int .u64 (s.fa:Nat)) (.int .u64 (s.go:Nat)) 192).later hb_w1
 simp only [zA] at t0 t1
 clear hc_w1 hf_w1
 obtain ⟨x0,x1,x2,x3,x4,x5,x6,x7,xf⟩:=id t1
 go_wp2_with fail
 go_at_call 203
 refine (HMI.out _ (m.later b1)).mono ?_
 rintro e w2 ⟨A2,c2,rfl,o2,hb_w2⟩
 obtain ⟨hc_w2,hf_w2⟩:=bcell hb_w2;have hz_w2_w_0:w.heap.size < w2.heap.size:=lY hb_w2.size;have hz_w2_w_1:w.heap.size + 1 < w2.heap.size:=lY hb_w2.size;have hz_w2_w_2:w.heap.size + 2 < w2.heap.size:=lY hb_w2.size;have hs_w2:=hb_w2.size;(try simp only [zZ] at hs_w2)
 have b2:Below w.heap.size w w2:=bX
 have t0:=t0.later hb_w2
 have t1:=t1.later hb_w2
 clear hc_w2 hf_w2 x0 x1 x2 x3 x4 x5 x6 x7 xf
 have s2:=hb_w2.size
 clear o2 hb_w2
 have zt:=t0.lt
 obtain ⟨y0,y1,y2,y3,y4,y5,y6,y7,yf⟩:=id t0
 go_wp2
 exact bodyPost_ret (res_sw2 rfl rfl ((t0.all (.slice none 0 0) (.int .i64 0) (.slice none 0 0) (.slice none 0 0) (.int .i64 0) (.slice none 0 0) (.int .u64 0) (.int .u64 0)).later ((Below.refl _ _).alloc (Nat.le_refl _) (.cells #[.int .i64 0,.slice A2 0 c2] 26)))) rfl ⟨rfl,(below8 b2 (by omega) (.slice none 0 0) (.int .i64 0) (.slice none 0 0) (.slice none 0 0) (.int .i64 0) (.slice none 0 0) (.int .u64 0) (.int .u64 0)).alloc (by rw [size8];omega) _⟩
set_option maxHeartbeats 2000000 in
theorem fview_bad3 (hz:Sizes w) (m:SM w v O s) (hk:OkH s.h) (ho:Right s.n s.os) (hn:s.n=s.h.n) (hc:countTo (misW s) s.n.toNat ≠ 0) :
  Calls Tryz.prog 134 #[scV v O co s] w fun e w'=>e=.returned (.tuple #[scV hv0 none 0 sc0,.int .i64 2])∧Below w.heap.size w w':=by
 have HC:=Lib.hid fun (w:World) z m=>zcheck_any (w:=w) (v:=v) (h:=s.h) z m hk.lens.1 hk.lens.2 0 (.inl ⟨hk,rfl⟩)
 have hu:Right s.n s.h.us:=by rw [hn];exact hk.framed.pages
 have HMI:=Lib.hid fun (w:World) (m:SM w v O s)=>fmissing_in (w:=w) (v:=v) (O:=O) (s:=s) co m ho hu hn
 have hms:Right s.n (misW s):=right_both ho (right_same ho hu)
 have HCO:=Lib.hid fun (w:World) (A:Option Addr) (c:Nat) hr=>fcount_any (w:=w) (n:=s.n) (A:=A) (ws:=misW s) c hr hms
 have hcl:=countTo_le (misW s) s.n.toNat
 have h12:=ho.2.1
 clear hk hms hu ho hn
 unfold Fresh at HMI
 unfold scV at HMI ⊢
 unfold hpV hpv at HC
 generalize misW s=ms at *
 generalize countTo ms s.n.toNat=q at *
 have hq:decide ((q:Int) > 0)=true:=decide_eq_true (by omega)
 have hq2:decide ((0:Int) < (q:Int))=true:=decide_eq_true (by omega)
 have hq3:decide (0 < q)=true:=decide_eq_true (by omega)
 go_enter Tryz.func134,Tryz.ntmps134
 go_wp2_with fail
 go_at_call 21
 refine (HC.out _ (hz.later bX) (m.h.later bX)).mono ?_
 rintro e w1 ⟨rfl,hb_w1⟩
 obtain ⟨hc_w1,hf_w1⟩:=bcell hb_w1;have hz_w1_w_0:w.heap.size < w1.heap.size:=lY hb_w1.size;have hz_w1_w_1:w.heap.size + 1 < w1.heap.size:=lY hb_w1.size;have hz_w1_w_2:w.heap.size + 2 < w1.heap.size:=lY hb_w1.size;have hs_w1:=hb_w1.size;(try simp only [zZ] at hs_w1)
 have b1:Below w.heap.size w w1:=bX
 have t0:=((E8.new (w.alloc (.cells #[.slice v.A s.h.ws.length v.ca,.int .i64 s.h.n,.slice v.U s.h.us.length v.cu,.slice v.V s.h.l.length v.cv,.int .i64 s.n,.slice O s.os.length co,.int .u64 (s.fa:Nat),.int .u64 (s.go:Nat)] 79)) (.slice none 0 0) (.int .i64 0) (.slice none 0 0) (.slice none 0 0) (.int .i64 0) (.slice none 0 0) (.int .u64 0) (.int .u64 0) 192).later ((Below.refl _ _).alloc (Nat.le_refl _) (.cells #[.slice v.A s.h.ws.length v.ca,.int .i64 s.h.n,.slice v.U s.h.us.length v.cu,.slice v.V s.h.l.length v.cv,.int .i64 s.n,.slice O s.os.length co,.int .u64 (s.fa:Nat),.int .u64 (s.go:Nat)] 192))).later hb_w1
 have t1:=(E8.new (w.alloc (.cells #[.slice v.A s.h.ws.length v.ca,.int .i64 s.h.n,.slice v.U s.h.us.length v.cu,.slice v.V s.h.l.length v.cv,.int .i64 s.n,.slice O s.os.length co,.int .u64 (s.fa:Nat),.int .u64 (s.go:Nat)] 79) |>.alloc (.cells #[.slice none 0 0,.int .i64 0,.slice none 0 0,.slice none 0 0,.int .i64 0,.slice none 0 0,.int .u64 0,.int .u64 0] 192)) (.slice v.A s.h.ws.length v.ca) (.int .i64 s.h.n) (.slice v.U s.h.us.length v.cu) (.slice v.V s.h.l.length v.cv) (.int .i64 s.n) (.slice O s.os.length co) (.int .u64 (s.fa:Nat)) (.int .u64 (s.go:Nat)) 192).later hb_w1
 simp only [zA] at t0 t1
 clear hc_w1 hf_w1
 obtain ⟨x0,x1,x2,x3,x4,x5,x6,x7,xf⟩:=id t1
 go_wp2_with fail
 go_at_call 203
 refine (HMI.out _ (m.later b1)).mono ?_
 rintro e w2 ⟨A2,c2,rfl,o2,hb_w2⟩
 obtain ⟨hc_w2,hf_w2⟩:=bcell hb_w2;have hz_w2_w_0:w.heap.size < w2.heap.size:=lY hb_w2.size;have hz_w2_w_1:w.heap.size + 1 < w2.heap.size:=lY hb_w2.size;have hz_w2_w_2:w.heap.size + 2 < w2.heap.size:=lY hb_w2.size;have hs_w2:=hb_w2.size;(try simp only [zZ] at hs_w2)
 have b2:Below w.heap.size w w2:=bX
 have t0:=t0.later hb_w2
 have t1:=t1.later hb_w2
 clear hc_w2 hf_w2 x0 x1 x2 x3 x4 x5 x6 x7 xf
 have r2:=o2.row
 have s2:=hb_w2.size
 clear o2 hb_w2
 have d2:=Two.new w2 (.int .i64 s.n) (.slice A2 ms.length c2) 26
 have t0:=t0.later ((Below.refl _ _).alloc (Nat.le_refl _) (.cells #[.int .i64 s.n,.slice A2 ms.length c2] 26))
 have b3:Below w.heap.size w (w2.alloc (.cells #[.int .i64 s.n,.slice A2 ms.length c2] 26)):=bX
 go_wp2_with fail
 go_at_call 204
 refine (HCO.out _ _ _ (r2.later bX)).mono ?_
 rintro e w3 ⟨rfl,hb_w3⟩
 obtain ⟨hc_w3,hf_w3⟩:=bcell hb_w3;have hz_w3_w2_0:w2.heap.size < w3.heap.size:=lY hb_w3.size;have hs_w3:=hb_w3.size;(try simp only [zZ] at hs_w3)
 have b4:Below w.heap.size w w3:=b3.trans (hb_w3.mono b3.size)
 have t0:=t0.later hb_w3
 clear hc_w3 hf_w3
 obtain ⟨y0,y1,y2,y3,y4,y5,y6,y7,yf⟩:=id t0
 go_wp2
 exact bodyPost_ret (res_sw2 rfl rfl (t0.all _ _ _ _ _ _ _ _)) rfl ⟨rfl,below8 b4 lX _ _ _ _ _ _ _ _⟩
set_option maxHeartbeats 1000000 in
theorem fview_bad (hz:Sizes w) (m:SM w v O s) (hs:Short s.h) (hk:¬ OkS s) :
  Calls Tryz.prog 134 #[scV v O co s] w fun e w'=>e=.returned (.tuple #[scV hv0 none 0 sc0,.int .i64 2])∧Below w.heap.size w w':=by
 by_cases h1:OkH s.h
 ·by_cases h2:Right s.n s.os∧s.n=s.h.n
  ·exact fview_bad3 co hz m h1 h2.1 h2.2 fun h=>hk ⟨h1,h2.1,h2.2,h⟩
  ·exact fview_bad2 co hz m h1 h2
 ·exact fview_bad1 co hz m hs h1
set_option maxHeartbeats 1000000 in
theorem fcheck_any (hz:Sizes w) (m:SM w v O s) (hs:Short s.h) (y:Int) (hy:(OkS s∧y=0) ∨ (¬ OkS s∧y=2)) :
  Calls Tryz.prog 65 #[scV v O co s] w fun e w'=>e=.returned (.int .i64 y)∧Below w.heap.size w w':=by
 rcases hy with ⟨hk,rfl⟩ | ⟨hk,rfl⟩
 ·have HV:=Lib.hid fun (w:World) z m=>fview_ok (w:=w) (v:=v) (O:=O) (s:=s) co z m hk
  clear hk hs
  unfold scV at HV ⊢
  go_enter Tryz.func65,Tryz.ntmps65
  go_wp2_with fail
  go_at_call 134
  refine (HV.out _ (hz.later bX) (m.later bX)).mono ?_
  rintro e w1 ⟨rfl,hb_w1⟩
  obtain ⟨hc_w1,hf_w1⟩:=bcell hb_w1;have hz_w1_w_0:w.heap.size < w1.heap.size:=lY hb_w1.size;have hs_w1:=hb_w1.size;(try simp only [zZ] at hs_w1)
  go_wp2
  go_ret
  exact ⟨rfl,bX⟩
 ·have HV:=Lib.hid fun (w:World) z m=>fview_bad (w:=w) (v:=v) (O:=O) (s:=s) co z m hs hk
  clear hk hs
  unfold scV at HV ⊢
  go_enter Tryz.func65,Tryz.ntmps65
  go_wp2_with fail
  go_at_call 134
  refine (HV.out _ (hz.later bX) (m.later bX)).mono ?_
  rintro e w1 ⟨rfl,hb_w1⟩
  obtain ⟨hc_w1,hf_w1⟩:=bcell hb_w1;have hz_w1_w_0:w.heap.size < w1.heap.size:=lY hb_w1.size;have hs_w1:=hb_w1.size;(try simp only [zZ] at hs_w1)
  go_wp2
  go_ret
  exact ⟨rfl,bX⟩
set_option maxHeartbeats 2000000 in
theorem ftwin_any (m:SM w v O s) (hk:OkS s) (hnil:v.V=none → v.cv=0) :
  Calls Tryz.prog 135 #[scV v O co s] w fun e w'=>∃ v' O' co',e=.returned (scV v' O' co' s)∧OwnsSc w' w.heap.size v' O' s∧Below w.heap.size w w':=by
 have HP:=Lib.hid fun (w:World) m=>plainH_any (w:=w) (v:=v) (h:=s.h) m hk.h.framed hnil
 have hO:O=none → co=0:=fun e=>by
  have h1:=hk.o.2.2.1
  have h2:=hk.h.framed.some_
  have h3:=hk.n
  obtain ⟨b,off,e2,_⟩:=m.o.at_ (by omega)
  rw [e] at e2;cases e2
 have hl:s.os.length ≤ 17592186044416:=by have:=right_len hk.o;omega
 have HW:=Lib.hid fun (w:World) hr=>wclone_any (w:=w) (A:=O) (t:=s.os) co hr hl hO
 clear hk hnil hO hl
 unfold CopiedN at HW
 unfold scV
 unfold hpV hpv at HP
 go_enter Tryz.func135,Tryz.ntmps135
 go_wp2_with fail
 go_at_call 144
 refine (HP.out _ (m.h.later bX)).mono ?_
 rintro e w1 ⟨v2,rfl,o2,hb_w1⟩
 obtain ⟨hc_w1,hf_w1⟩:=bcell hb_w1;have hz_w1_w_0:w.heap.size < w1.heap.size:=lY hb_w1.size;have hz_w1_w_1:w.heap.size + 1 < w1.heap.size:=lY hb_w1.size;have hs_w1:=hb_w1.size;(try simp only [zZ] at hs_w1)
 have b1:Below w.heap.size w w1:=bX
 have t0:=((E8.new w (.slice v.A s.h.ws.length v.ca) (.int .i64 s.h.n) (.slice v.U s.h.us.length v.cu) (.slice v.V s.h.l.length v.cv) (.int .i64 s.n) (.slice O s.os.length co) (.int .u64 (s.fa:Nat)) (.int .u64 (s.go:Nat)) 192).later ((Below.refl _ _).alloc (Nat.le_refl _) (.cells #[.slice none 0 0,.int .i64 0,.slice none 0 0,.slice none 0 0,.int .i64 0,.slice none 0 0,.int .u64 0,.int .u64 0] 192))).later hb_w1
 have t1:=(E8.new (w.alloc (.cells #[.slice v.A s.h.ws.length v.ca,.int .i64 s.h.n,.slice v.U s.h.us.length v.cu,.slice v.V s.h.l.length v.cv,.int .i64 s.n,.slice O s.os.length co,.int .u64 (s.fa:Nat),.int .u64 (s.go:Nat)] 192)) (.slice none 0 0) (.int .i64 0) (.slice none 0 0) (.slice none 0 0) (.int .i64 0) (.slice none 0 0) (.int .u64 0) (.int .u64 0) 192).later hb_w1
 simp only [zA] at t0 t1 o2
 have z1:=t1.lt
 clear hc_w1 hf_w1
 obtain ⟨x0,x1,x2,x3,x4,x5,x6,x7,xf⟩:=id t0
 go_wp2_with fail
 generalize hW:(((w1.setCell ⟨w.heap.size,0,none⟩ (.slice v2.A s.h.ws.length v2.ca)).setCell ⟨w.heap.size,1,none⟩ (.int .i64 s.h.n)).setCell ⟨w.heap.size,2,none⟩ (.slice v2.U s.h.us.length v2.cu)).setCell ⟨w.heap.size,3,none⟩ (.slice v2.V s.h.l.length v2.cv)=W at *
 have t2:E8 W w.heap.size (.slice v2.A s.h.ws.length v2.ca) (.int .i64 s.h.n) (.slice v2.U s.h.us.length v2.cu) (.slice v2.V s.h.l.length v2.cv) (.int .i64 s.n) (.slice O s.os.length co) (.int .u64 (s.fa:Nat)) (.int .u64 (s.go:Nat)):=by rw [← hW];exact (((t0.set0 _).set1 _).set2 _).set3 _
 have t3:E8 W (w.heap.size + 1) (.slice none 0 0) (.int .i64 0) (.slice none 0 0) (.slice none 0 0) (.int .i64 0) (.slice none 0 0) (.int .u64 0) (.int .u64 0):=by rw [← hW];exact (((t1.far (p:=⟨w.heap.size,0,none⟩) (by show w.heap.size ≠ w.heap.size + 1;omega) _).far (p:=⟨w.heap.size,1,none⟩) (by show w.heap.size ≠ w.heap.size + 1;omega) _).far (p:=⟨w.heap.size,2,none⟩) (by show w.heap.size ≠ w.heap.size + 1;omega) _).far (p:=⟨w.heap.size,3,none⟩) (by show w.heap.size ≠ w.heap.size + 1;omega) _
 have o3:OwnsH W (w.heap.size + 2) v2 s.h:=by rw [← hW];exact (((o2.far (p:=⟨w.heap.size,0,none⟩) (by show w.heap.size < w.heap.size + 2;omega) _).far (p:=⟨w.heap.size,1,none⟩) (by show w.heap.size < w.heap.size + 2;omega) _).far (p:=⟨w.heap.size,2,none⟩) (by show w.heap.size < w.heap.size + 2;omega) _).far (p:=⟨w.heap.size,3,none⟩) (by show w.heap.size < w.heap.size + 2;omega) _
 have b2:Below w.heap.size w W:=by rw [← hW];exact (((b1.setCell (p:=⟨w.heap.size,0,none⟩) (Nat.le_refl _) _).setCell (p:=⟨w.heap.size,1,none⟩) (Nat.le_refl _) _).setCell (p:=⟨w.heap.size,2,none⟩) (Nat.le_refl _) _).setCell (p:=⟨w.heap.size,3,none⟩) (Nat.le_refl _) _
 have s2:w.heap.size + 2 ≤ W.heap.size:=by rw [← hW];simp only [zS];omega
 clear hW t0 t1 o2 b1 hb_w1 z1 x0 x1 x2 x3 x4 x5 x6 x7 xf
 obtain ⟨x0,x1,x2,x3,x4,x5,x6,x7,xf⟩:=id t2
 go_at_call 205
 refine (HW.out _ (m.o.later b2)).mono ?_
 rintro e w2 ⟨A3,c3,rfl,r3,hb_w2⟩
 have t4:=t2.later hb_w2
 have t5:=t3.later hb_w2
 have o4:=o3.later hb_w2
 have b3:=b2.trans (hb_w2.mono b2.size)
 have w4:=r3.own.mono s2
 clear t2 t3 o3 b2 r3 x0 x1 x2 x3 x4 x5 x6 x7 xf
 have t6:=t4.set5 (.slice A3 s.os.length c3)
 have t7:=t5.far (p:=⟨w.heap.size,5,none⟩) (by show w.heap.size ≠ w.heap.size + 1;omega) (.slice A3 s.os.length c3)
 have o6:=(OwnsSc.mk (s:=s) o4 w4).h.far (p:=⟨w.heap.size,5,none⟩) (by show w.heap.size < w.heap.size + 2;omega) (.slice A3 s.os.length c3)
 have w6:=w4.far (p:=⟨w.heap.size,5,none⟩) (.inl (by show w.heap.size < w.heap.size + 2;omega)) (.slice A3 s.os.length c3)
 have b6:=b3.setCell (p:=⟨w.heap.size,5,none⟩) (Nat.le_refl _) (.slice A3 s.os.length c3)
 obtain ⟨x0,x1,x2,x3,x4,x5,x6,x7,xf⟩:=id t4
 obtain ⟨y0,y1,y2,y3,y4,y5,y6,y7,yf⟩:=id t5
 go_wp2
 exact bodyPost_ret (res_sw1 rfl rfl (t7.all _ _ _ _ _ _ _ _)) rfl ⟨v2,A3,c3,rfl,((OwnsSc.mk (s:=s) o6 w6).over8 (g:=w.heap.size + 1) (by omega) _ _ _ _ _ _ _ _).mono (by omega),below8 (g:=w.heap.size + 1) b6 (by omega) _ _ _ _ _ _ _ _⟩
end
set_option maxHeartbeats 1000000 in
theorem xfits_any {w:World} (n:Int) (m:Nat) (h0:0 ≤ n) (h1:n ≤ 48) (d:Sd) (A:Option Addr) (ca:Nat) (M:Option Addr) (cm:Nat) (b:Bool) (hb:fitsB n d=b) :
  Calls Tryz.prog 174 #[.agg #[.int .i64 n,.int .u64 (m:Nat)],spv d A ca M cm] w fun e w'=>e=.returned (.bool b)∧Below w.heap.size w w':=by
 have HO:=Lib.hid fun (w:World)=>rcof_in (w:=w) (n + 1) (by omega) (by omega)
 have HP:=Lib.hid fun (w:World)=>rcpages_in (w:=w) (n + 1) (by omega) (by omega)
 have hw1:IntKind.i64.wrap (n + 1)=n + 1:=by rw [IntKind.wrap_i64];omega
 unfold fitsB at hb
 obtain ⟨df,dp,dz,dan,daw,dmn,dmw,ds⟩:=d
 simp only at hb
 unfold spv
 simp only
 have key:∀ (c s:Int) (y:Int),clsOf (n + 1)=c → szn n=(if y=0 then s else 0) → (∀ w:World,Calls Tryz.prog 80 #[.int .i64 c] w fun e w'=>e=.returned (.tuple #[.int .i64 s,.int .i64 y])∧w=w') → (y=0 ∨ (y != 0)=true) →
   Calls Tryz.prog 174 #[.agg #[.int .i64 n,.int .u64 (m:Nat)],.agg #[.int .i64 df,.int .i64 dp,.int .i64 dz,.int .i64 dan,.slice A daw.length ca,.int .i64 dmn,.slice M dmw.length cm,.bool ds]] w fun e w'=>e=.returned (.bool b)∧Below w.heap.size w w':=by
  intro c s y hc hs HS0 hy
  rw [hc] at HO
  have HS:=Lib.hid HS0
  clear HS0 hc
  generalize pgOf (n + 1)=p at *
  rcases hy with rfl | hy
  ·rw [if_pos rfl] at hs
   rw [hs] at hb
   have e1:(s == dz)=(dz == s):=by rw [Bool.eq_iff_iff,beq_iff_eq,beq_iff_eq];exact eq_comm
   have e2:(p == dp)=(dp == p):=by rw [Bool.eq_iff_iff,beq_iff_eq,beq_iff_eq];exact eq_comm
   clear hs
   rcases hd1:(dz == s) with _ | _ <;> rcases hd2:(dp == p) with _ | _
   all_goals
    rw [hd1] at e1 hb
    rw [hd2] at e2 hb
    simp only [Bool.and_true,Bool.and_false,Bool.true_and,Bool.false_and,Bool.and_self] at hb
    subst hb
    clear hd1 hd2
    go_enter Tryz.func174,Tryz.ntmps174
    go_wp2_with fail
    try simp only [hw1]
    go_at_call 79
    refine (HO.out _).mono ?_
    rintro e w0 ⟨rfl,rfl⟩
    go_wp2_with fail
    try simp only [hw1]
    go_at_call 83
    refine (HP.out _).mono ?_
    rintro e w0 ⟨rfl,rfl⟩
    go_wp2_with fail
    go_at_call 80
    refine (HS.out _).mono ?_
    rintro e w0 ⟨rfl,rfl⟩
    go_wp2
    go_ret
    exact ⟨rfl,bX⟩
  ·have hy0:¬ y=0:=by simpa using hy
   rw [if_neg hy0] at hs
   rw [hs] at hb
   have e1:((0:Int) == dz)=(dz == 0):=by rw [Bool.eq_iff_iff,beq_iff_eq,beq_iff_eq];exact eq_comm
   have e2:(p == dp)=(dp == p):=by rw [Bool.eq_iff_iff,beq_iff_eq,beq_iff_eq];exact eq_comm
   clear hs hy0
   rcases hd1:(dz == 0) with _ | _ <;> rcases hd2:(dp == p) with _ | _
   all_goals
    rw [hd1] at e1 hb
    rw [hd2] at e2 hb
    simp only [Bool.and_true,Bool.and_false,Bool.true_and,Bool.false_and,Bool.and_self] at hb
    subst hb
    clear hd1 hd2
    go_enter Tryz.func174,Tryz.ntmps174
    go_wp2_with fail
    try simp only [hw1]
    go_at_call 79
    refine (HO.out _).mono ?_
    rintro e w0 ⟨rfl,rfl⟩
    go_wp2_with fail
    try simp only [hw1]
    go_at_call 83
    refine (HP.out _).mono ?_
    rintro e w0 ⟨rfl,rfl⟩
    go_wp2_with fail
    go_at_call 80
    refine (HS.out _).mono ?_
    rintro e w0 ⟨rfl,rfl⟩
    go_wp2
    go_ret
    exact ⟨rfl,bX⟩
 by_cases h16:n + 1 ≤ 16
 ·obtain ⟨c,hc0,hc4,HC⟩:∃ c:Int,0 ≤ c∧c < 4∧clsOf (n + 1)=c:=by
   rcases clsOf_case (n + 1) (by omega) with ⟨_,h⟩ | ⟨_,_,h⟩ | ⟨_,_,h⟩ | ⟨_,_,h⟩ | ⟨h,_⟩
   ·exact ⟨_,by rw [h];omega,by rw [h];omega,rfl⟩
   ·exact ⟨_,by rw [h];omega,by rw [h];omega,rfl⟩
   ·exact ⟨_,by rw [h];omega,by rw [h];omega,rfl⟩
   ·exact ⟨_,by rw [h];omega,by rw [h];omega,rfl⟩
   ·omega
  exact key c (szOf c) 0 HC (by unfold szn;rw [if_pos h16,HC];rfl) (fun w=>rcsize_in (w:=w) c hc0 hc4) (.inl rfl)
 ·obtain ⟨c,hc,HC⟩:∃ c:Int,¬ (0 ≤ c∧c < 4)∧clsOf (n + 1)=c:=by
   rcases clsOf_case (n + 1) (by omega) with ⟨_,h⟩ | ⟨_,_,h⟩ | ⟨_,_,h⟩ | ⟨_,_,h⟩ | ⟨_,h⟩
   ·omega
   ·omega
   ·omega
   ·omega
   ·exact ⟨_,by rw [h];omega,rfl⟩
  exact key c 0 1 HC (by unfold szn;rw [if_neg h16];rfl) (fun w=>rcsize_out (w:=w) c hc) (.inr (by decide))
def cellsX (o:Ob):List Value:=[.int .i64 o.i,.int .i64 o.k,.int .u64 o.a,.int .i64 o.n,.int .u64 o.m,.bool o.c]
def obX (o:Ob):Value:=.agg #[.int .i64 o.i,.int .i64 o.k,.int .u64 o.a,.int .i64 o.n,.int .u64 o.m,.bool o.c]
def flatX (os:List Ob):List Value:=os.flatMap cellsX
structure Xp (w:World) (b o:Nat) (x:Ob):Prop where
 c0:w.cell? ⟨b,o,none⟩=some (.int .i64 x.i)
 c1:w.cell? ⟨b,o + 1,none⟩=some (.int .i64 x.k)
 c2:w.cell? ⟨b,o + 2,none⟩=some (.int .u64 x.a)
 c3:w.cell? ⟨b,o + 3,none⟩=some (.int .i64 x.n)
 c4:w.cell? ⟨b,o + 4,none⟩=some (.int .u64 x.m)
 c5:w.cell? ⟨b,o + 5,none⟩=some (.bool x.c)
structure XRow (w:World) (B:Nat) (A:Option Addr) (os:List Ob):Prop where
 at_:0 < os.length → ∃ b off,A=some ⟨b,off,none⟩∧b < B∧∀ i (hi:i < os.length),Xp w b (off + i * 6) os[i]
theorem XRow.nil (w:World) (B:Nat) (A:Option Addr):XRow w B A []:=⟨fun h=>by simp at h⟩
theorem XRow.below {w w':World} {B:Nat} {A:Option Addr} {os:List Ob} (h:XRow w B A os) (hb:Below B w w'):XRow w' B A os:=⟨fun hl=>by
 obtain ⟨b,off,e,hlt,hc⟩:=h.at_ hl
 refine ⟨b,off,e,hlt,fun i hi=>?_⟩
 have x:=hc i hi
 exact ⟨((bcell hb).1 _ _ hlt).trans x.c0,((bcell hb).1 _ _ hlt).trans x.c1,((bcell hb).1 _ _ hlt).trans x.c2,((bcell hb).1 _ _ hlt).trans x.c3,((bcell hb).1 _ _ hlt).trans x.c4,((bcell hb).1 _ _ hlt).trans x.c5⟩⟩
theorem XRow.more {w:World} {B B':Nat} {A:Option Addr} {os:List Ob} (h:XRow w B A os) (hB:B ≤ B'):XRow w B' A os:=⟨fun hl=>by
 obtain ⟨b,off,e,hlt,hc⟩:=h.at_ hl
 exact ⟨b,off,e,by omega,hc⟩⟩
theorem XRow.later {w w':World} {A:Option Addr} {os:List Ob} (h:XRow w w.heap.size A os) (hb:Below w.heap.size w w'):XRow w' w'.heap.size A os:=(h.below hb).more hb.size
structure Six (w:World) (b:Nat) (v0 v1 v2 v3 v4 v5:Value):Prop where
 c0:w.cell? ⟨b,0,none⟩=some v0
 c1:w.cell? ⟨b,1,none⟩=some v1
 c2:w.cell? ⟨b,2,none⟩=some v2
 c3:w.cell? ⟨b,3,none⟩=some v3
 c4:w.cell? ⟨b,4,none⟩=some v4
 c5:w.cell? ⟨b,5,none⟩=some v5
 f:∀ i,w.frozen? ⟨b,i,none⟩=false
theorem Six.lt {w:World} {b:Nat} {v0 v1 v2 v3 v4 v5:Value} (h:Six w b v0 v1 v2 v3 v4 v5):b < w.heap.size:=World.block_lt_of_cell? w _ h.c0
theorem Six.below {w w':World} {b B:Nat} {v0 v1 v2 v3 v4 v5:Value} (h:Six w b v0 v1 v2 v3 v4 v5) (hb:Below B w w') (hB:b < B):Six w' b v0 v1 v2 v3 v4 v5:=
 ⟨((bcell hb).1 _ _ hB).trans h.c0,((bcell hb).1 _ _ hB).trans h.c1,((bcell hb).1 _ _ hB).trans h.c2,((bcell hb).1 _ _ hB).trans h.c3,((bcell hb).1 _ _ hB).trans h.c4,((bcell hb).1 _ _ hB).trans h.c5,fun i=>((bcell hb).2 _ _ hB).trans (h.f i)⟩
theorem Six.later {w w':World} {b:Nat} {v0 v1 v2 v3 v4 v5:Value} (h:Six w b v0 v1 v2 v3 v4 v5) (hb:Below w.heap.size w w'):Six w' b v0 v1 v2 v3 v4 v5:=h.below hb h.lt
theorem Six.new (w:World) (v0 v1 v2 v3 v4 v5:Value) (t:TypeId):Six (w.alloc (.cells #[v0,v1,v2,v3,v4,v5] t)) w.heap.size v0 v1 v2 v3 v4 v5:=by constructor <;> simp [go_sem]
theorem Six.all {w:World} {b:Nat} {v0 v1 v2 v3 v4 v5:Value} (h:Six w b v0 v1 v2 v3 v4 v5) (u0 u1 u2 u3 u4 u5:Value) :
  Six ((((((w.setCell ⟨b,0,none⟩ u0).setCell ⟨b,1,none⟩ u1).setCell ⟨b,2,none⟩ u2).setCell ⟨b,3,none⟩ u3).setCell ⟨b,4,none⟩ u4).setCell ⟨b,5,none⟩ u5) b u0 u1 u2 u3 u4 u5:=by
 have o:∀ {W:World} {i j:Nat} (x y:Value),W.cell? ⟨b,i,none⟩=some x → j ≠ i → (W.setCell ⟨b,j,none⟩ y).cell? ⟨b,i,none⟩=some x:=fun x y hx hne=>(cO _ _ _ _ (by intro e;injection e with _ e;exact hne e)).trans hx
 have s:∀ {W:World} {i:Nat} {x:Value} (y:Value),W.cell? ⟨b,i,none⟩=some x → (W.setCell ⟨b,i,none⟩ y).cell? ⟨b,i,none⟩=some y:=fun y hx=>World.cell?_setCell_same _ _ _ hx
 have h0:=h.c0;have h1:=h.c1;have h2:=h.c2;have h3:=h.c3;have h4:=h.c4;have h5:=h.c5
 refine ⟨o _ _ (o _ _ (o _ _ (o _ _ (o _ _ (s _ h0) (by decide)) (by decide)) (by decide)) (by decide)) (by decide),
  o _ _ (o _ _ (o _ _ (o _ _ (s _ (o _ _ h1 (by decide))) (by decide)) (by decide)) (by decide)) (by decide),
  o _ _ (o _ _ (o _ _ (s _ (o _ _ (o _ _ h2 (by decide)) (by decide))) (by decide)) (by decide)) (by decide),
  o _ _ (o _ _ (s _ (o _ _ (o _ _ (o _ _ h3 (by decide)) (by decide)) (by decide))) (by decide)) (by decide),
  o _ _ (s _ (o _ _ (o _ _ (o _ _ (o _ _ h4 (by decide)) (by decide)) (by decide)) (by decide))) (by decide),
  s _ (o _ _ (o _ _ (o _ _ (o _ _ (o _ _ h5 (by decide)) (by decide)) (by decide)) (by decide)) (by decide)),fun i=>by simp only [World.frozen?_setCell];exact h.f i⟩
theorem below_six {B b:Nat} {a w:World} (o:Below B a w) (hb:B ≤ b) (u0 u1 u2 u3 u4 u5:Value):Below B a ((((((w.setCell ⟨b,0,none⟩ u0).setCell ⟨b,1,none⟩ u1).setCell ⟨b,2,none⟩ u2).setCell ⟨b,3,none⟩ u3).setCell ⟨b,4,none⟩ u4).setCell ⟨b,5,none⟩ u5):=
 (((((o.setCell (p:=⟨b,0,none⟩) hb u0).setCell (p:=⟨b,1,none⟩) hb u1).setCell (p:=⟨b,2,none⟩) hb u2).setCell (p:=⟨b,3,none⟩) hb u3).setCell (p:=⟨b,4,none⟩) hb u4).setCell (p:=⟨b,5,none⟩) hb u5
theorem res_six2 {fn:Func} {p u:Tmp} (h:fn.results=#[.cell p 156,.tmp u]) {tmps:Array Value} {w:World} {g:Nat} {v0 v1 v2 v3 v4 v5:Value} (hp:tmps.getD p undef=.pointer (some ⟨g,0,none⟩)) (c:Six w g v0 v1 v2 v3 v4 v5) :
  (results fn tmps).run Tryz.prog w=.ok (.tuple #[.agg #[v0,v1,v2,v3,v4,v5],tmps.getD u undef]) w:=by
 rw [results_cell_tmp h,hp]
 simp [go_sem,Result.andThen,c.c0,c.c1,c.c2,c.c3,c.c4,c.c5,asAddr]
def obZ:Ob:=⟨0,0,0,0,0,false,false⟩
def FdE (os:List Ob) (a:Nat) (r:Ob) (b:Bool):Prop:=(b=false∧r=obZ∧∀ o ∈ os,¬ (o.a=a∧o.c=true)) ∨ (b=true∧∃ k,∃ hk:k < os.length,os[k]=r∧r.a=a∧r.c=true∧∀ j (hj:j < k),¬ ((os[j]'(by omega)).a=a∧(os[j]'(by omega)).c=true))
theorem FdE.ex (os:List Ob) (a:Nat):∃ r b,FdE os a r b:=by
 induction os with
 | nil=>exact ⟨_,_,.inl ⟨rfl,rfl,fun o ho=>(by cases ho)⟩⟩
 | cons x t ih=>
  by_cases hx:x.a=a∧x.c=true
  ·exact ⟨x,true,.inr ⟨rfl,0,by simp,rfl,hx.1,hx.2,fun j hj=>absurd hj (Nat.not_lt_zero j)⟩⟩
  ·obtain ⟨r,b,h⟩:=ih
   rcases h with ⟨rfl,rfl,h⟩ | ⟨rfl,k,hk,h1,h2,h3,h4⟩
   ·refine ⟨_,_,.inl ⟨rfl,rfl,fun o ho=>?_⟩⟩
    rcases List.mem_cons.1 ho with rfl | ho
    ·exact hx
    ·exact h o ho
   ·refine ⟨r,true,.inr ⟨rfl,k + 1,by simp;omega,by simpa using h1,h2,h3,fun j hj=>?_⟩⟩
    cases j with
    | zero=>simpa using hx
    | succ j=>simpa using h4 j (by omega)
theorem info_ob6:(Tryz.prog.info? 156).map (fun i=>(i.zero,i.size,i.bytes))=some (some (.agg #[.int .i64 0,.int .i64 0,.int .u64 0,.int .i64 0,.int .u64 0,.bool false]),6,48):=by kernel_rfl
theorem run_append_noneOb {w:World} (ty:TypeId) (v:Value) (n c:Nat) (xs:List Value) (base:Nat) (hown:w.ownsRow base 156 6 v n xs) :
  (Builtin.append_ #[152,152] ty #[v,.slice none 0 c]).run Tryz.prog w=.ok v w:=by
 obtain ⟨i0,hi,hz0,hz1,hz2⟩:=info_parts info_ob6
 obtain ⟨_,⟨rfl,rfl⟩ | ⟨g,cap,cur,rfl,_,hg,hc,hm,_,_⟩⟩:=hown
 ·simp [Builtin.append_,run_underlying Tryz.underlying152,sizeOf,typeInfo,hi,hz1,Builtin.lenOf,Builtin.firstCells,storeCells]
 ·have h1:¬ (9223372036854775807 < (n:Int)):=by unfold maxLen at hm;omega
  have hl:∀ (x:Addr),(loadCells x 0).run Tryz.prog w=.ok #[] w:=fun x=>by simpa using run_loadCells_list (P:=Tryz.prog) w x [] (by simp)
  simp [Builtin.append_,run_underlying Tryz.underlying152,sizeOf,typeInfo,hi,hz1,Builtin.lenOf,Builtin.firstCells,storeCells,hc,hl,h1]
theorem wp_appendOb {w:World} {o:Oper} {a:Act} {K:Act → World → Prop} {Q:Exit → Act → World → Prop} (s x:Operand)
  (ho:o.op=.call { callee:=.builtin .append,args:=#[s,x],argTypes:=#[152,152] })
  (base:Nat) (A:Option Addr) (cap n:Nat) (xs:List Value) (hs:a.eval s=.slice A n cap) (hown:w.ownsRow base 156 6 (.slice A n cap) n xs)
  (Ao:Option Addr) (m c:Nat) (news:List Value) (hx:a.eval x=.slice Ao m c) (hl:news.length=m * 6) (hpos:0 < m → ∃ b off,Ao=some ⟨b,off,none⟩∧∀ j u,news[j]?=some u → w.cell? ⟨b,off + j,none⟩=some u) (h1:∀ u ∈ news,u.oneCell'=true)
  (hsm:n + m ≤ 100000) (hbase:base ≤ w.heap.size)
  (h:∀ A' cap' w',w'.ownsRow base 156 6 (.slice A' (n + m) cap') (n + m) (xs ++ news) → w.grownBy w' (A.map fun a=>a.block) → Below base w w' → (A'=A ∨ A'=some ⟨w.heap.size,0,none⟩) → K (a.put o.dst (.slice A' (n + m) cap')) w') :
  Oper.wp Tryz.prog o a w K Q:=by
 obtain ⟨i0,hi,hz0,hz1,hz2⟩:=info_parts info_ob6
 have key:∃ A' cap' w',(Builtin.append_ #[152,152] o.type #[.slice A n cap,.slice Ao m c]).run Tryz.prog w=.ok (.slice A' (n + m) cap') w'∧w'.ownsRow base 156 6 (.slice A' (n + m) cap') (n + m) (xs ++ news)∧w.grownBy w' (A.map fun a=>a.block)∧Below base w w'∧(A'=A ∨ A'=some ⟨w.heap.size,0,none⟩):=by
  have hob:(Value.slice A n cap).ownBlock=A.map fun a=>a.block:=by cases A <;> rfl
  by_cases hm:0 < m
  ·obtain ⟨b,off,rfl,hc⟩:=hpos hm
   obtain ⟨g,cap',w',h2,h3,h4,h5,_⟩:=run_append_lies (P:=Tryz.prog) w 152 o.type base 156 i0 _ 6 48 Tryz.underlying152 hi hz0 hz1 hz2 rfl (by omega) (.slice A n cap) n xs hown ⟨b,off,none⟩ m c news hl (fun j u hj=>by rw [add_form];exact hc j u hj) h1 hm (by unfold maxLen;omega) (by omega) hbase _ rfl
   refine ⟨_,cap',w',h2,h3,by rw [← hob];exact h4,(Below.refl _ _).grown h4 hbase (fun k hk=>(hown.lt k hk).1),?_⟩
   rcases h5 with h5 | h5
   ·left
    obtain ⟨_,⟨e1,_⟩ | ⟨g',_,_,e1,_⟩⟩:=hown
    ·injection e1 with e1
     subst e1
     cases h5
    ·injection e1 with e1
     subst e1
     injection h5 with h5
     have h5':g'=g:=h5
     rw [h5']
   ·right
    rw [h5]
  ·obtain rfl:m=0:=by omega
   obtain rfl:news=[]:=List.eq_nil_of_length_eq_zero (by omega)
   cases Ao with
   | none=>exact ⟨A,cap,w,run_append_noneOb _ _ n c xs base hown,by simpa using hown,⟨rfl,rfl,rfl,Nat.le_refl _,fun _ _ _=>rfl⟩,Below.refl _ _,.inl rfl⟩
   | some ad=>
    have hl:∀ (x:Addr),(loadCells x 0).run Tryz.prog w=.ok #[] w:=fun x=>by simpa using run_loadCells_list (P:=Tryz.prog) w x [] (by simp)
    have h2:(Builtin.append_ #[152,152] o.type #[.slice A n cap,.slice (some ad) 0 c]).run Tryz.prog w=.ok (.slice A n cap) w:=by
     obtain ⟨_,⟨e1,rfl⟩ | ⟨g,cap',cur,e1,_,hg,hc,hm,_,_⟩⟩:=id hown
     ·injection e1 with e1 _ e3
      subst e1 e3
      simp [Builtin.append_,run_underlying Tryz.underlying152,sizeOf,typeInfo,hi,hz1,Builtin.lenOf,Builtin.firstCells,storeCells,hl]
     ·injection e1 with e1 _ e3
      subst e1 e3
      have h1:¬ (9223372036854775807 < (n:Int)):=by unfold maxLen at hm;omega
      simp [Builtin.append_,run_underlying Tryz.underlying152,sizeOf,typeInfo,hi,hz1,Builtin.lenOf,Builtin.firstCells,storeCells,hc,hl,h1]
    exact ⟨A,cap,w,h2,by simpa using hown,⟨rfl,rfl,rfl,Nat.le_refl _,fun _ _ _=>rfl⟩,Below.refl _ _,.inl rfl⟩
 obtain ⟨A',cap',w',h2,h3,h5,h4,h6⟩:=key
 unfold Oper.wp execOp
 simp only [ho,resolve,invoke,builtin,Sem.run_bind,Sem.run_pure,Result.andThen_ok,List.map_toArray,List.map_cons,List.map_nil,hs,hx,h2]
 exact h A' cap' w' h3 h5 h4 h6
theorem OkH.pages {h:Hp} (hk:OkH h):((countTo h.us h.n.toNat:Nat):Int)=sumP h.l h.l.length:=((ownedC_iff hk.framed).2 hk.owned).count
theorem B4.grown {w w':World} {b g:Nat} {v0 v1 v2 v3:Value} (h:B4 w b v0 v1 v2 v3) (hg:w.grownBy w' (some g)) (hne:b ≠ g):B4 w' b v0 v1 v2 v3:=by
 have hb:=hg.block b h.lt (by intro e;injection e with e;exact hne e)
 exact ⟨(World.cell?_of_block (a:=⟨b,0,none⟩) hb).trans h.c0,(World.cell?_of_block (a:=⟨b,1,none⟩) hb).trans h.c1,(World.cell?_of_block (a:=⟨b,2,none⟩) hb).trans h.c2,(World.cell?_of_block (a:=⟨b,3,none⟩) hb).trans h.c3,
  (World.frozen?_of_block (a:=⟨b,0,none⟩) hb).trans h.f0,(World.frozen?_of_block (a:=⟨b,1,none⟩) hb).trans h.f1,(World.frozen?_of_block (a:=⟨b,2,none⟩) hb).trans h.f2,(World.frozen?_of_block (a:=⟨b,3,none⟩) hb).trans h.f3⟩
theorem OwnsH.grownLt {w w':World} {B g:Nat} {v:Hv} {h:Hp} (o:OwnsH w B v h) (hg:w.grownBy w' (some g)) (hB:g < B):OwnsH w' B v h:=by
 obtain ⟨vs,e,hs⟩:=o.s
 exact ⟨o.a.grownLt hg hB,o.u.grownLt hg hB,vs,e,hs.grown hg hB⟩
theorem flatX_app (a b:List Ob):flatX (a ++ b)=flatX a ++ flatX b:=by unfold flatX;rw [List.flatMap_append]
theorem flatX_one (o:Ob):flatX [o]=cellsX o:=by unfold flatX;simp
def HdS (ws:List Nat) (d:Sd) (K:Nat):Prop:=∀ k,k < K → tb d.aw k=true → Un (ws.getD (slA d k) 0)∧fitsB (unN (ws.getD (slA d k) 0)) d=true
theorem HdS.step {ws:List Nat} {d:Sd} {K:Nat} (h:HdS ws d K) (hk:tb d.aw K=true → Un (ws.getD (slA d K) 0)∧fitsB (unN (ws.getD (slA d K) 0)) d=true):HdS ws d (K + 1):=fun k hk2=>by
 by_cases e:k=K
 ·rw [e];exact hk
 ·exact h k (by omega)
def obsB:Bool → Hp → List Ob
 | true,h=>obsH h
 | false,_=>[]
structure AllI (w wr:World) (v:Hv) (h:Hp) (A:Option Addr) (cap:Nat) (os:List Ob):Prop where
 box:HbV wr w.heap.size v h
 own:wr.ownsRow (w.heap.size + 1) 156 6 (.slice A os.length cap) os.length (flatX os)
 sz:w.heap.size + 1 ≤ wr.heap.size
 bel:Below w.heap.size w wr
theorem AllI.later {w wr w':World} {v:Hv} {h:Hp} {A:Option Addr} {cap:Nat} {os:List Ob} (a:AllI w wr v h A cap os) (hb:Below wr.heap.size wr w'):AllI w w' v h A cap os:=
 ⟨Hb.later a.box hb,owns_laterN a.own hb,Nat.le_trans a.sz hb.size,a.bel.trans (hb.mono (by have:=a.sz;omega))⟩
theorem AllI.blk {w wr:World} {v:Hv} {h:Hp} {A:Option Addr} {cap:Nat} {os:List Ob} (a:AllI w wr v h A cap os):∀ q,(A.map fun a=>a.block)=some q → w.heap.size + 1 ≤ q∧q < wr.heap.size:=fun q hq=>a.own.lt q (by cases A with | none=>cases hq | some a=>exact hq)
structure AllJ (w wr:World) (v:Hv) (h:Hp) (A:Option Addr) (cap:Nat) (os:List Ob) (bx:Nat) (d:Sd) (Aa:Option Addr) (ca:Nat) (Am:Option Addr) (cm:Nat):Prop where
 i:AllI w wr v h A cap os
 sp:Sp8 wr bx 0 d Aa ca Am cm
 far:(A.map fun a=>a.block) ≠ some bx
 lo:w.heap.size + 1 ≤ bx
theorem AllJ.later {w wr w':World} {v:Hv} {h:Hp} {A:Option Addr} {cap bx ca cm:Nat} {os:List Ob} {d:Sd} {Aa Am:Option Addr} (a:AllJ w wr v h A cap os bx d Aa ca Am cm) (hb:Below wr.heap.size wr w'):AllJ w w' v h A cap os bx d Aa ca Am cm:=
 ⟨a.i.later hb,a.sp.later hb,a.far,a.lo⟩
theorem AllI.span {w wr:World} {v:Hv} {h:Hp} {A:Option Addr} {cap:Nat} {os:List Ob} (a:AllI w wr v h A cap os) (d:Sd) (Aa:Option Addr) (ca:Nat) (Am:Option Addr) (cm:Nat) (t:TypeId) :
  AllJ w (wr.alloc (.cells #[.int .i64 d.f,.int .i64 d.p,.int .i64 d.z,.int .i64 d.an,.slice Aa d.aw.length ca,.int .i64 d.mn,.slice Am d.mw.length cm,.bool d.s] t)) v h A cap os wr.heap.size d Aa ca Am cm:=
 ⟨a.later (Below.alloc (Below.refl _ _) (Nat.le_refl _) _),Sp8.new wr d Aa ca Am cm t,fun e=>by have:=(a.blk _ e).2;omega,a.sz⟩
theorem Sp8.grown {w w':World} {g o ca cm:Nat} {d:Sd} {A M:Option Addr} {row:Option Nat} (h:Sp8 w g o d A ca M cm) (hg:w.grownBy w' row) (hne:row ≠ some g):Sp8 w' g o d A ca M cm:=by
 have k:∀ i,w'.cell? ⟨g,i,none⟩=w.cell? ⟨g,i,none⟩:=fun i=>World.cell?_of_block (hg.block g h.lt (fun e=>hne e.symm))
 exact ⟨(k _).trans h.c0,(k _).trans h.c1,(k _).trans h.c2,(k _).trans h.c3,(k _).trans h.c4,(k _).trans h.c5,(k _).trans h.c6,(k _).trans h.c7⟩
theorem AllJ.next {w wr W w9:World} {v:Hv} {h:Hp} {A A9:Option Addr} {cap cap9 bx ca cm:Nat} {os:List Ob} {d:Sd} {Aa Am:Option Addr} (a:AllJ w wr v h A cap os bx d Aa ca Am cm) (k:Below wr.heap.size wr W) (o:Ob)
  (own9:w9.ownsRow (w.heap.size + 1) 156 6 (.slice A9 (os.length + 1) cap9) (os.length + 1) (flatX os ++ cellsX o)) (gr:W.grownBy w9 (A.map fun a=>a.block)) (hb9:Below (w.heap.size + 1) W w9) (hat:A9=A ∨ A9=some ⟨W.heap.size,0,none⟩) :
  AllJ w w9 v h A9 cap9 (os ++ [o]) bx d Aa ca Am cm:=by
 have j:=a.later k
 have hlt:=j.sp.lt
 refine ⟨⟨Hb.below j.i.box hb9 (by omega),?_,Nat.le_trans j.i.sz hb9.size,j.i.bel.trans (hb9.mono (by omega))⟩,j.sp.grown gr j.far,?_,j.lo⟩
 ·rw [flatX_app,flatX_one,List.length_append];exact own9
 ·rcases hat with rfl | rfl
  ·exact j.far
  ·intro e;injection e with e;have e:W.heap.size=bx:=e;omega
theorem six_lies (W:World) (o:Ob) (t:TypeId):∀ j u,(cellsX o)[j]?=some u → (W.alloc (.cells #[.int .i64 o.i,.int .i64 o.k,.int .u64 o.a,.int .i64 o.n,.int .u64 o.m,.bool o.c] t)).cell? ⟨W.heap.size,0 + j,none⟩=some u:=by
 intro j u hj
 unfold cellsX at hj
 match j with
 | 0=>simp at hj;subst hj;simp [go_sem]
 | 1=>simp at hj;subst hj;simp [go_sem]
 | 2=>simp at hj;subst hj;simp [go_sem]
 | 3=>simp at hj;subst hj;simp [go_sem]
 | 4=>simp at hj;subst hj;simp [go_sem]
 | 5=>simp at hj;subst hj;simp [go_sem]
 | j + 6=>simp at hj
theorem cellsX_one (o:Ob):∀ u ∈ cellsX o,u.oneCell'=true:=by
 intro u hu
 simp only [cellsX,List.mem_cons,List.mem_nil_iff,or_false] at hu
 rcases hu with rfl | rfl | rfl | rfl | rfl | rfl <;> rfl
set_option maxHeartbeats 8000000 in
theorem xall_any {w:World} {v:Hv} {h:Hp} (hm:HM w w.heap.size v h) (hF:Framed h) (hO:Owned h) (b:Bool) (hb:b=true ↔ Heads h) :
  Calls Tryz.prog 96 #[hpV v h] w fun e w'=>∃ A cap,e=.returned (.tuple #[.slice A (obsB b h).length cap,.bool b])∧w'.ownsRow (w.heap.size + 1) 156 6 (.slice A (obsB b h).length cap) (obsB b h).length (flatX (obsB b h))∧Below w.heap.size w w':=by
 have HB:=Lib.hid hb
 have HL:=Lib.hid hF.spans
 have HOI:=Lib.hid hO.in_
 have HLG:=Lib.hid hF.long
 have HWD:=Lib.hid hm.a.words
 have hw16:=hF.words
 have h256:=hF.spans.1
 have hA:=hm.a
 have hV:=hm.v
 have I0:AllI w (w.alloc (.cells #[.slice v.A h.ws.length v.ca,.int .i64 h.n,.slice v.U h.us.length v.cu,.slice v.V h.l.length v.cv] 31)) v h none 0 []:=⟨Hb.new w v.A h.ws.length v.ca h.n v.U h.us.length v.cu v.V h.l.length v.cv 31,World.ownsRow_nil _ _ _ _,by simp,bX⟩
 have X0:=I0.box
 obtain ⟨x0,x1,x2,x3⟩:=id X0
 clear hb hF hO hm X0
 unfold hpV hpv
 go_enter Tryz.func96,Tryz.ntmps96
 go_wp2_with fail
 go_loopw [4,14] (fun ov iv wr=>∃ (i:Nat) (A:Option Addr) (cap:Nat) (os:List Ob),ov=.slice A os.length cap∧iv=.int .i64 (i:Nat)∧i ≤ h.l.length∧Hid (os=obsL h.ws h.l i)∧Hid (∀ j,j < i → HdS h.ws (nth h.l j) (slN (nth h.l j)))∧Hid (AllI w wr v h A cap os)) (fun ov iv _=>h.l.length - (intOf iv).toNat)
 case atStart=>exact ⟨0,none,0,[],rfl,rfl,Nat.zero_le _,Lib.hid rfl,Lib.hid (by intro j hj;omega),Lib.hid I0⟩
 case round=>
  clear I0 x0 x1 x2 x3
  obtain ⟨i,A,cap,os,rfl,rfl,hi,HE,HD,HI⟩:=hrel
  have hsz:=HI.out.sz
  have hb_wr:=HI.out.bel
  have hsr:=hb_wr.size
  by_cases hlt:i < h.l.length
  ·obtain ⟨g,off,hAe,hg,hc⟩:=hV.at_ (by omega)
   obtain ⟨Aa,ca,Am,cm,c8,ra,rm⟩:=hc i hlt
   have o1:=HL.out.at_ hlt
   have hoi:=HOI.out i hlt
   obtain ⟨d,hd⟩:∃ d,Hid (nth h.l i=d):=⟨_,rfl⟩
   rw [hd.out] at c8 ra rm o1 hoi
   have HLN:(obsL h.ws h.l i).length ≤ 2048:=by have:=obsL_len (ws:=h.ws) HL.out hi;omega
   have HBD:Hid (b=true → HdS h.ws d (slN d)):=Lib.hid fun e=>by have:=HB.out.1 e i hlt;rw [hd.out] at this;exact this
   have HEND:Hid (∀ os',os'=obsL h.ws h.l i ++ obsS h.ws d i (slN d) → os'=obsL h.ws h.l (i + 1)):=Lib.hid fun os' e=>by rw [e,obsL,hd.out]
   have HDN:Hid (HdS h.ws d (slN d) → ∀ j,j < i + 1 → HdS h.ws (nth h.l j) (slN (nth h.l j))):=Lib.hid fun e j hj=>by
    by_cases e2:j=i
    ·rw [e2,hd.out];exact e
    ·exact HD.out j (by omega)
   obtain ⟨k1,k8,kN⟩:=o1.slK
   have HAN:Hid (d.an=((slN d:Nat):Int)):=Lib.hid (by rw [kN];exact o1.an)
   have han2:=o1.an
   have p1:=o1.placed
   unfold Placed at p1
   have hss:=o1.sized.slots
   have HAT:=Lib.hid fun (w:World) (k:Nat) (hk:k < slN d)=>xat_any (w:=w) d Aa ca Am cm (k:Nat) p1.1 (by omega) ((k:Int) * d.z) rfl (o1.slA_eq hk).2.1 (by have:=(o1.slA_eq hk).2.2;omega)
   have HEQ:=Lib.hid fun (k:Nat) (hk:k < slN d)=>(o1.slA_eq hk).1
   have HIN:=Lib.hid fun (k:Nat) (hk:k < slN d)=>(show slA d k < h.ws.length by
    have h1:=(o1.slA_in hk).2
    have h2:=(o1.swd_eq).2.1
    have h3:=HLG.out
    have h4:=hoi.1
    omega)
   have HIS:=Lib.hid fun (w:World) (k:Nat) (hk:k < slN d) hr=>is_any (A:=Aa) (ws:=d.aw) (w:=w) (k:Nat) d.an ca hr (by omega) (by rw [o1.aw];omega) (by rw [o1.aw];omega)
   have HIM:=Lib.hid fun (w:World) (k:Nat) (hk:k < slN d) hr=>is_any (A:=Am) (ws:=d.mw) (w:=w) (k:Nat) d.mn cm hr (by omega) (by rw [o1.mw];omega) (by rw [o1.mw];omega)
   simp only [Int.toNat_natCast] at HIS HIM
   have HFI:=Lib.hid fun (w:World) n m h0 h1 b hb=>xfits_any (w:=w) n m h0 h1 d Aa ca Am cm b hb
   unfold spv at HAT HFI
   obtain ⟨x0,x1,x2,x3,x4,x5,x6,x7⟩:=id (c8.below hb_wr hg)
   obtain ⟨y0,y1,y2,y3⟩:=id HI.out.box
   have i1:(i:Int) < (h.l.length:Int):=by omega
   have i2:(0:Int) ≤ (i:Int):=by omega
   have J0:=Lib.hid (HI.out.span d Aa ca Am cm 72)
   have hJlo:=J0.out.lo
   clear hc c8 o1 hoi p1 hd HB hss han2
   obtain ⟨vA,vca,vU,vcu,vV,vcv⟩:=v
   simp only at *
   subst hAe
   go_wp2_with fail
   generalize wr=wA at *
   go_loopw [4,7] (fun ov kv wr=>∃ (k:Nat) (A:Option Addr) (cap:Nat) (os:List Ob),ov=.slice A os.length cap∧kv=.int .i64 (k:Nat)∧k ≤ slN d∧Hid (os=obsL h.ws h.l i ++ obsS h.ws d i k)∧Hid (HdS h.ws d k)∧Hid (AllJ w wr ⟨vA,vca,vU,vcu,some ⟨g,off,none⟩,vcv⟩ h A cap os wA.heap.size d Aa ca Am cm)) (fun ov kv _=>slN d - (intOf kv).toNat)
   case atStart=>exact ⟨0,A,cap,os,rfl,rfl,Nat.zero_le _,Lib.hid (by rw [HE.out];simp [obsS]),Lib.hid (by intro j hj;omega),J0⟩
   case round=>
    clear HI HE HD J0 y0 y1 y2 y3 x0 x1 x2 x3 x4 x5 x6 x7 hb_wr hsr hsz
    obtain ⟨k,A,cap,os,rfl,rfl,hk,HE,HD,HJ⟩:=hrel
    have hb_wr:=HJ.out.i.bel
    have hsr:=hb_wr.size
    have hsz:=HJ.out.i.sz
    have hbx:=HJ.out.sp.lt
    obtain ⟨y0,y1,y2,y3⟩:=id HJ.out.i.box
    obtain ⟨c0,c1,c2,c3,c4,c5,c6,c7⟩:=id HJ.out.sp
    have hsA:w.heap.size ≤ wr.heap.size:=hsr
    by_cases hkN:k < slN d
    ·have g5:decide ((k:Int) < d.an)=true:=decide_eq_true (by rw [HAN.out];omega)
     have HATk:=Lib.hid fun (w:World)=>HAT.out w k hkN
     have HISk:=Lib.hid fun (w:World) hr=>HIS.out w k hkN hr
     have HIMk:=Lib.hid fun (w:World) hr=>HIM.out w k hkN hr
     have HEQk:=Lib.hid (HEQ.out k hkN)
     have hin:=HIN.out k hkN
     have rak:Row wr wr.heap.size Aa d.aw:=ra.later hb_wr
     generalize hbt:tb d.aw k=bt at *
     cases bt
     ·have HE2:Hid (os=obsL h.ws h.l i ++ obsS h.ws d i (k + 1)):=Lib.hid (by rw [obsS,if_neg (by rw [hbt];decide),List.append_nil];exact HE.out)
      have HD2:Hid (HdS h.ws d (k + 1)):=Lib.hid (HD.out.step (fun e=>by rw [hbt] at e;cases e))
      clear HE HD hbt
      go_wp2_with fail
      go_at_call 107
      refine (HISk.out _ (rak.later bX)).mono ?_
      rintro e w1 ⟨rfl,hb_w1⟩
      have k1:Below wr.heap.size wr w1:=bX
      go_wp2
      have HJ1:=Lib.hid (HJ.out.later k1)
      go_roundw
      case rel=>exact ⟨k + 1,A,cap,os,rfl,by go_num,by omega,HE2,HD2,HJ1⟩
      case measure=>simp [intOf];omega
     ·obtain ⟨gA,oA,hAe,hgA,hcA⟩:=hA.at_ (by omega)
      subst hAe
      obtain ⟨a,ha⟩:∃ a,Hid (slA d k=a):=⟨_,rfl⟩
      rw [ha.out] at hin
      rw [← HEQk.out,ha.out] at HATk
      obtain ⟨x,hx⟩:∃ x,Hid (h.ws.getD a 0=x):=⟨_,rfl⟩
      have q0:wr.cell? ⟨gA,oA + a,none⟩=some (.int .u64 (x:Nat)):=((bcell hb_wr).1 _ _ hgA).trans (by rw [hcA a hin,hx.out])
      have hxl:x < W64:=by rw [← hx.out];exact HWD.out.at_ _
      have HUN:=Lib.hid fun (w:World)=>xunpack_any (w:=w) x hxl
      have HNO:Hid (¬ (Un x∧fitsB (unN x) d=true) → b=false):=Lib.hid fun hn=>by
       rcases b with _ | _
       ·rfl
       ·have:=HBD.out rfl k hkN hbt
        rw [ha.out,hx.out] at this
        exact absurd this hn
      have HYES:Hid (Un x → fitsB (unN x) d=true → HdS h.ws d (k + 1)):=Lib.hid fun e1 e2=>HD.out.step (fun _=>by rw [ha.out,hx.out];exact ⟨e1,e2⟩)
      have HOB:Hid (∀ cb,tb (curW d) k=cb → obAt h.ws d i k=⟨i,k,a,unN x,unM x,tb d.mw k,cb⟩):=Lib.hid fun cb e=>by unfold obAt;rw [ha.out,hx.out,e]
      have HE2:Hid (os ++ [obAt h.ws d i k]=obsL h.ws h.l i ++ obsS h.ws d i (k + 1)):=Lib.hid (by rw [obsS,if_pos hbt,← List.append_assoc,HE.out])
      have hol:os.length ≤ 2056:=by
       have h1:=HE.out
       have h2:=obsS_len h.ws d i k
       rw [h1,List.length_append]
       omega
      have HBT:=Lib.hid hbt
      have hin2:(a:Int) < (h.ws.length:Int):=by omega
      have hin0:(0:Int) ≤ (a:Int):=by omega
      clear HD HBD hbt hcA HEQk
      go_wp2_with fail
      go_at_call 107
      refine (HISk.out _ (rak.later bX)).mono ?_
      rintro e w1 ⟨rfl,hb_w1⟩
      have k1:Below wr.heap.size wr w1:=bX
      have hs1:=k1.size
      clear y0 y1 y2 y3 c0 c1 c2 c3 c4 c5 c6 c7 hb_w1
      obtain ⟨y0,y1,y2,y3⟩:=id (HJ.out.later k1).i.box
      obtain ⟨c0,c1,c2,c3,c4,c5,c6,c7⟩:=id (HJ.out.later k1).sp
      go_wp2_with fail
      go_at_call 162
      refine (HATk.out _).mono ?_
      rintro e w2 ⟨rfl,hb_w2⟩
      have k2:Below wr.heap.size wr w2:=bX
      have hs2:=k2.size
      clear y0 y1 y2 y3 c0 c1 c2 c3 c4 c5 c6 c7 hb_w2 k1 hs1
      obtain ⟨y0,y1,y2,y3⟩:=id (HJ.out.later k2).i.box
      obtain ⟨c0,c1,c2,c3,c4,c5,c6,c7⟩:=id (HJ.out.later k2).sp
      have q2:w2.cell? ⟨gA,oA + a,none⟩=some (.int .u64 (x:Nat)):=(k2.cell (p:=⟨gA,oA + a,none⟩) lX).trans q0
      by_cases hun:Un x
      ·have hY0:unY x=0:=by unfold unY;rw [if_pos hun]
       rw [hY0] at HUN
       obtain ⟨n0,n48⟩:=unN_bounds x
       clear hY0
       go_wp2_with fail
       go_at_call 173
       refine (HUN.out _).mono ?_
       rintro e w3 ⟨rfl,hb_w3⟩
       have k3:Below wr.heap.size wr w3:=bX
       have hs3:=k3.size
       clear y0 y1 y2 y3 c0 c1 c2 c3 c4 c5 c6 c7 hb_w3 k2 hs2 q2
       obtain ⟨c0,c1,c2,c3,c4,c5,c6,c7⟩:=id (HJ.out.later k3).sp
       have hb3:wA.heap.size < w3.heap.size:=by omega
       rcases hft:fitsB (unN x) d with _ | _
       ·obtain rfl:b=false:=HNO.out (fun hh=>by rw [hft] at hh;cases hh.2)
        have HFIk:=Lib.hid fun (w:World)=>HFI.out w (unN x) (unM x) n0 n48 false hft
        clear hft HNO HYES
        go_wp2_with fail
        go_at_call 174
        refine (HFIk.out _).mono ?_
        rintro e w4 ⟨rfl,hb_w4⟩
        have k4:Below wr.heap.size wr w4:=bX
        have b4:Below w.heap.size w w4:=hb_wr.trans (k4.mono hsr)
        have hs4:=b4.size
        clear hb_w4
        go_wp2
        go_ret2
        exact ⟨none,0,rfl,World.ownsRow_nil _ _ _ _,bX⟩
       ·have HFIk:=Lib.hid fun (w:World)=>HFI.out w (unN x) (unM x) n0 n48 true hft
        have HD2:=Lib.hid (HYES.out hun hft)
        clear hft HNO HYES hun
        have HA9:Hid ((A.map fun a=>a.block) ≠ some w3.heap.size):=Lib.hid fun e=>by have:=(HJ.out.i.blk _ e).2;omega
        go_wp2_with fail
        go_at_call 174
        refine (HFIk.out _).mono ?_
        rintro e w4 ⟨rfl,hb_w4⟩
        have k4:Below wr.heap.size wr w4:=bX
        have hs4:w3.heap.size < w4.heap.size:=(by have:=hb_w4.size;(try simp only [zZ] at this);omega)
        have z0:w4.cell? ⟨w3.heap.size,0,none⟩=some (.int .i64 (unN x)):=(hb_w4.cell lX).trans (by simp [go_sem])
        have z1:w4.cell? ⟨w3.heap.size,1,none⟩=some (.int .u64 (unM x:Nat)):=(hb_w4.cell lX).trans (by simp [go_sem])
        clear c0 c1 c2 c3 c4 c5 c6 c7 hb_w4
        obtain ⟨c0,c1,c2,c3,c4,c5,c6,c7⟩:=id (HJ.out.later k4).sp
        have hb4:wA.heap.size < w4.heap.size:=by omega
        have hw4:w.heap.size + 1 ≤ w4.heap.size:=by omega
        obtain hds | hds:d.s=false ∨ d.s=true:=by cases d.s <;> simp
        ·rw [hds] at c7
         have hcb:tb (curW d) k=tb d.mw k:=by unfold curW;rw [hds];rfl
         have HE3:Hid (os ++ [⟨i,k,a,unN x,unM x,tb d.mw k,tb d.mw k⟩]=obsL h.ws h.l i ++ obsS h.ws d i (k + 1)):=Lib.hid (by rw [← HOB.out _ hcb];exact HE2.out)
         clear hds hcb
         have rmk:Row w4 w4.heap.size Am d.mw:=(rm.later hb_wr).later k4
         go_wp2_with fail
         refine wp_region_held_drew (S:=(fun X:World=>X.cell? ⟨w3.heap.size,0,none⟩=some (.int .i64 (unN x))∧X.cell? ⟨w3.heap.size,1,none⟩=some (.int .u64 (unM x:Nat))∧X.cell? ⟨wA.heap.size,5,none⟩=some (.int .i64 d.mn)∧X.cell? ⟨wA.heap.size,6,none⟩=some (.slice Am d.mw.length cm)∧X.cell? ⟨wA.heap.size,7,none⟩=some (.bool false))) (by kernel_rfl) ?_ fun _=>?_
         ·exact kS
         refine tY 0 ?_
         try simp only [Act.put,qZ]
         refine tY 1 ?_
         try simp only [Act.put,qZ]
         refine tY 2 ?_
         try simp only [Act.put,qZ]
         refine tY 3 ?_
         try simp only [Act.put,qZ]
         refine tY 4 ?_
         try simp only [Act.put,qZ]
         refine tY 5 ?_
         try simp only [Act.put,qZ]
         refine tY 6 ?_
         try simp only [Act.put,qZ]
         refine tY 7 ?_
         try simp only [Act.put,qZ]
         refine tY 8 ?_
         try simp only [Act.put,qZ]
         refine tY 9 ?_
         try simp only [Act.put,qZ]
         refine tY 10 ?_
         try simp only [Act.put,qZ]
         refine tR 11 fun K hK=>?_
         try simp only [qZ]
         go_simp
         go_at_call 107
         refine (HIMk.out _ (rmk.later bX)).mono ?_
         rintro e w5 ⟨rfl,hb_w5⟩
         have hs5:w4.heap.size ≤ w5.heap.size:=(by have:=hb_w5.size;(try simp only [zZ] at this);omega)
         have mw50:w5.cell? ⟨w3.heap.size,0,none⟩=some (.int .i64 (unN x)):=cX hb_w5
         have mw51:w5.cell? ⟨w3.heap.size,1,none⟩=some (.int .u64 (unM x:Nat)):=cX hb_w5
         have mw52:w5.cell? ⟨wA.heap.size,5,none⟩=some (.int .i64 d.mn):=cX hb_w5
         have mw53:w5.cell? ⟨wA.heap.size,6,none⟩=some (.slice Am d.mw.length cm):=cX hb_w5
         have mw54:w5.cell? ⟨wA.heap.size,7,none⟩=some (.bool false):=cX hb_w5
         try go_wp2_with fail
         refine hK.out _ _ ?_ fun _=>?_
         ·exact kS
         clear hK K
         try simp only [Act.put,qZ]
         refine tR 12 fun K hK=>?_
         try simp only [qZ]
         go_simp
         refine hK.out _ _ ?_ fun _=>?_
         ·exact kS
         clear hK K
         try simp only [Act.put,qZ]
         refine tY 13 ?_
         try simp only [Act.put,qZ]
         refine tR 14 fun K hK=>?_
         try simp only [qZ]
         go_simp
         refine hK.out _ _ ?_ fun _=>?_
         ·exact kS
         clear hK K
         try simp only [Act.put,qZ]
         refine tR 15 fun K hK=>?_
         try simp only [qZ]
         rw [if_pos]
         rotate_left
         ·rfl
         refine wp_appendOb (.tmp 52) (.tmp 66) (by rfl) (w.heap.size + 1) A cap os.length (flatX os) (by simp [Act.eval,Act.put]) (owns_laterN HJ.out.i.own bX) (some ⟨w5.heap.size,0,none⟩) 1 1 (cellsX ⟨i,k,a,unN x,unM x,tb d.mw k,tb d.mw k⟩) (by simp [Act.eval,Act.put]) rfl (fun _=>⟨w5.heap.size,0,rfl,six_lies _ ⟨i,k,a,unN x,unM x,tb d.mw k,tb d.mw k⟩ _⟩) (cellsX_one ⟨i,k,a,unN x,unM x,tb d.mw k,tb d.mw k⟩) (by omega) lX ?_
         intro A9 cap9 w9 own9 hgr9 hb_w9 hat9
         have m90:w9.cell? ⟨w3.heap.size,0,none⟩=some (.int .i64 (unN x)):=(World.cell?_of_block (hgr9.block _ lX (fun e=>HA9.out e.symm))).trans kX
         have m91:w9.cell? ⟨w3.heap.size,1,none⟩=some (.int .u64 (unM x:Nat)):=(World.cell?_of_block (hgr9.block _ lX (fun e=>HA9.out e.symm))).trans kX
         have m92:w9.cell? ⟨wA.heap.size,5,none⟩=some (.int .i64 d.mn):=(World.cell?_of_block (hgr9.block _ lX (fun e=>HJ.out.far e.symm))).trans kX
         have m93:w9.cell? ⟨wA.heap.size,6,none⟩=some (.slice Am d.mw.length cm):=(World.cell?_of_block (hgr9.block _ lX (fun e=>HJ.out.far e.symm))).trans kX
         have m94:w9.cell? ⟨wA.heap.size,7,none⟩=some (.bool false):=(World.cell?_of_block (hgr9.block _ lX (fun e=>HJ.out.far e.symm))).trans kX
         have HJ9:=Lib.hid (HJ.out.next bX ⟨i,k,a,unN x,unM x,tb d.mw k,tb d.mw k⟩ own9 hgr9 hb_w9 hat9)
         clear own9 hgr9 hb_w9 hat9
         refine hK.out _ _ ?_ fun _=>?_
         ·(try dsimp only);refine ⟨?_,?_,?_,?_,?_⟩ <;> assumption
         clear hK K
         try simp only [Act.put,qZ]
         refine tY 16 ?_
         try simp only [Act.put,qZ]
         refine wpAnyH_done (by kernel_rfl) ?_ _
         go_wp2
         go_roundw
         case rel=>exact ⟨k + 1,A9,cap9,_,by simp,by go_num,by omega,HE3,HD2,HJ9⟩
         case measure=>simp [intOf];omega
        ·rw [hds] at c7
         have hcb:tb (curW d) k=true:=by unfold curW;rw [hds];exact HBT.out
         have HE3:Hid (os ++ [⟨i,k,a,unN x,unM x,tb d.mw k,true⟩]=obsL h.ws h.l i ++ obsS h.ws d i (k + 1)):=Lib.hid (by rw [← HOB.out _ hcb];exact HE2.out)
         clear hds hcb
         go_wp2_with fail
         refine wp_region_held_drew (S:=(fun X:World=>X.cell? ⟨w3.heap.size,0,none⟩=some (.int .i64 (unN x))∧X.cell? ⟨w3.heap.size,1,none⟩=some (.int .u64 (unM x:Nat))∧X.cell? ⟨wA.heap.size,5,none⟩=some (.int .i64 d.mn)∧X.cell? ⟨wA.heap.size,6,none⟩=some (.slice Am d.mw.length cm)∧X.cell? ⟨wA.heap.size,7,none⟩=some (.bool true))) (by kernel_rfl) ?_ fun _=>?_
         ·exact kS
         refine tY 0 ?_
         try simp only [Act.put,qZ]
         refine tY 1 ?_
         try simp only [Act.put,qZ]
         refine tY 2 ?_
         try simp only [Act.put,qZ]
         refine tY 3 ?_
         try simp only [Act.put,qZ]
         refine tY 4 ?_
         try simp only [Act.put,qZ]
         refine tY 5 ?_
         try simp only [Act.put,qZ]
         refine tY 6 ?_
         try simp only [Act.put,qZ]
         refine tY 7 ?_
         try simp only [Act.put,qZ]
         refine tN 8 ?_
         try simp only [Act.put,qZ]
         refine tN 9 ?_
         try simp only [Act.put,qZ]
         refine tN 10 ?_
         try simp only [Act.put,qZ]
         refine tN 11 ?_
         try simp only [Act.put,qZ]
         refine tR 12 fun K hK=>?_
         try simp only [qZ]
         go_simp
         refine hK.out _ _ ?_ fun _=>?_
         ·exact kS
         clear hK K
         try simp only [Act.put,qZ]
         refine tY 13 ?_
         try simp only [Act.put,qZ]
         refine tR 14 fun K hK=>?_
         try simp only [qZ]
         go_simp
         refine hK.out _ _ ?_ fun _=>?_
         ·exact kS
         clear hK K
         try simp only [Act.put,qZ]
         refine tR 15 fun K hK=>?_
         try simp only [qZ]
         rw [if_pos]
         rotate_left
         ·rfl
         refine wp_appendOb (.tmp 52) (.tmp 66) (by rfl) (w.heap.size + 1) A cap os.length (flatX os) (by simp [Act.eval,Act.put]) (owns_laterN HJ.out.i.own bX) (some ⟨w4.heap.size,0,none⟩) 1 1 (cellsX ⟨i,k,a,unN x,unM x,tb d.mw k,true⟩) (by simp [Act.eval,Act.put]) rfl (fun _=>⟨w4.heap.size,0,rfl,six_lies _ ⟨i,k,a,unN x,unM x,tb d.mw k,true⟩ _⟩) (cellsX_one ⟨i,k,a,unN x,unM x,tb d.mw k,true⟩) (by omega) lX ?_
         intro A9 cap9 w9 own9 hgr9 hb_w9 hat9
         have m90:w9.cell? ⟨w3.heap.size,0,none⟩=some (.int .i64 (unN x)):=(World.cell?_of_block (hgr9.block _ lX (fun e=>HA9.out e.symm))).trans kX
         have m91:w9.cell? ⟨w3.heap.size,1,none⟩=some (.int .u64 (unM x:Nat)):=(World.cell?_of_block (hgr9.block _ lX (fun e=>HA9.out e.symm))).trans kX
         have m92:w9.cell? ⟨wA.heap.size,5,none⟩=some (.int .i64 d.mn):=(World.cell?_of_block (hgr9.block _ lX (fun e=>HJ.out.far e.symm))).trans kX
         have m93:w9.cell? ⟨wA.heap.size,6,none⟩=some (.slice Am d.mw.length cm):=(World.cell?_of_block (hgr9.block _ lX (fun e=>HJ.out.far e.symm))).trans kX
         have m94:w9.cell? ⟨wA.heap.size,7,none⟩=some (.bool true):=(World.cell?_of_block (hgr9.block _ lX (fun e=>HJ.out.far e.symm))).trans kX
         have HJ9:=Lib.hid (HJ.out.next bX ⟨i,k,a,unN x,unM x,tb d.mw k,true⟩ own9 hgr9 hb_w9 hat9)
         clear own9 hgr9 hb_w9 hat9
         refine hK.out _ _ ?_ fun _=>?_
         ·(try dsimp only);refine ⟨?_,?_,?_,?_,?_⟩ <;> assumption
         clear hK K
         try simp only [Act.put,qZ]
         refine tY 16 ?_
         try simp only [Act.put,qZ]
         refine wpAnyH_done (by kernel_rfl) ?_ _
         go_wp2
         go_roundw
         case rel=>exact ⟨k + 1,A9,cap9,_,by simp,by go_num,by omega,HE3,HD2,HJ9⟩
         case measure=>simp [intOf];omega
      ·have hY2:unY x=2:=by unfold unY;rw [if_neg hun]
       rw [hY2] at HUN
       obtain rfl:b=false:=HNO.out (fun hh=>hun hh.1)
       clear hY2 HNO HYES hun
       go_wp2_with fail
       go_at_call 173
       refine (HUN.out _).mono ?_
       rintro e w3 ⟨rfl,hb_w3⟩
       have k3:Below wr.heap.size wr w3:=bX
       have b3:Below w.heap.size w w3:=hb_wr.trans (k3.mono hsr)
       have hs3:=b3.size
       clear hb_w3
       go_wp2
       go_ret2
       exact ⟨none,0,rfl,World.ownsRow_nil _ _ _ _,bX⟩
    ·have hkN2:k=slN d:=by omega
     have g5:decide ((k:Int) < d.an)=false:=decide_eq_false (by rw [HAN.out];omega)
     have HE2:Hid (os=obsL h.ws h.l (i + 1)):=Lib.hid (HEND.out os (by rw [← hkN2];exact HE.out))
     have HD2:Hid (∀ j,j < i + 1 → HdS h.ws (nth h.l j) (slN (nth h.l j))):=Lib.hid (HDN.out (by rw [← hkN2];exact HD.out))
     have HI2:=Lib.hid HJ.out.i
     clear HE HD HJ hkN hkN2 kN k1 k8
     go_wp2
     go_roundw
     case rel=>exact ⟨i + 1,A,cap,os,rfl,by go_num,by omega,HE2,HD2,HI2⟩
     case measure=>simp [intOf];omega
  ·obtain rfl:i=h.l.length:=by omega
   obtain rfl:b=true:=HB.out.2 fun j hj k hk=>HD.out j hj k hk
   have HR:Hid (wr.ownsRow (w.heap.size + 1) 156 6 (.slice A (obsB true h).length cap) (obsB true h).length (flatX (obsB true h))):=Lib.hid (by
    have h1:=HI.out.own
    rw [HE.out] at h1
    exact h1)
   have e5:os.length=(obsB true h).length:=by rw [HE.out];rfl
   clear HE HD HI HB
   rw [e5]
   go_wp2
   go_ret2
   exact ⟨A,cap,rfl,HR.out,bX⟩
def anyB (l:List Sd) (i:Int):Nat → Bool
 | 0=>false
 | k + 1=>anyB l i k || (decide ((nth l k).f ≤ i) && decide (i < (nth l k).f + (nth l k).p))
theorem anyB_iff {l:List Sd} {i:Int} {k:Nat}:anyB l i k=true ↔ ∃ j,j < k∧(nth l j).f ≤ i∧i < (nth l j).f + (nth l j).p:=by
 induction k with
 | zero=>simp [anyB]
 | succ k ih=>
  rw [anyB,Bool.or_eq_true,ih,Bool.and_eq_true,decide_eq_true_eq,decide_eq_true_eq]
  constructor
  ·rintro (⟨j,h1,h2⟩ | h)
   ·exact ⟨j,by omega,h2⟩
   ·exact ⟨k,by omega,h⟩
  ·rintro ⟨j,h1,h2⟩
   by_cases e:j=k
   ·right;rw [← e];exact h2
   ·left;exact ⟨j,by omega,h2⟩
structure FrmD (h:Hp):Prop where
 words:h.ws.length ≤ 16384
 pages:Right h.n h.us
 spans:OkL h.l
 some_:1 ≤ h.n
 long:(h.ws.length:Int)=h.n * 16
 zero:tb h.us 0=true
 used:∀ i:Nat,1 ≤ i → (i:Int) < h.n → tb h.us i=anyB h.l i h.l.length
 in_:∀ j,j < h.l.length → 1 ≤ (nth h.l j).f∧(nth h.l j).f + (nth h.l j).p ≤ h.n
theorem frmD_iff (h:Hp):FrmD h ↔ Framed h∧Owned h:=by
 constructor
 ·intro d
  refine ⟨⟨d.words,d.pages,d.spans,by have:=d.some_;omega,d.long⟩,⟨d.in_,fun i hi=>?_⟩⟩
  by_cases h0:i=0
  ·subst h0
   exact ⟨fun _=>.inl rfl,fun _=>d.zero⟩
  ·rw [d.used i (by omega) hi,anyB_iff]
   constructor
   ·rintro ⟨j,h1,h2⟩;exact .inr ⟨j,h1,h2⟩
   ·rintro (h1 | h1)
    ·omega
    ·exact h1
 ·rintro ⟨f,o⟩
  refine ⟨f.words,f.pages,f.spans,by have:=f.some_;omega,f.long,?_,fun i h1 h2=>?_,o.in_⟩
  ·exact (o.used 0 (by have:=f.some_;omega)).2 (.inl rfl)
  ·rw [Bool.eq_iff_iff,o.used i h2,anyB_iff]
   constructor
   ·rintro (h3 | h3)
    ·omega
    ·exact h3
   ·exact fun h3=>.inr h3
section
variable {A:Option Addr} {ws:List Nat} {w:World} (cap:Nat)
theorem racheck_any:Calls Tryz.prog 172 #[.agg #[.slice A ws.length cap]] w fun e w'=>e=.returned (.int .i64 (errA ws True))∧Below w.heap.size w w':=by
 unfold errA
 by_cases hb:ws.length ≤ 16384
 ·rw [if_pos hb,if_pos trivial]
  exact racheck_ok _ _ hb
 ·rw [if_neg hb]
  exact racheck_bad _ _ hb
end
theorem bool_false {b:Bool} {P:Prop} (hb:b=true ↔ P) (hn:¬ P):b=false:=by
 rcases b with _ | _
 ·rfl
 ·exact absurd (hb.1 rfl) hn
set_option maxHeartbeats 8000000 in
theorem xframed_any {w:World} {v:Hv} {h:Hp} (hm:HM w w.heap.size v h) (h2:h.l.length ≤ 17592186044416) (b:Bool) (hb:b=true ↔ FrmD h) :
  Calls Tryz.prog 95 #[hpV v h] w fun e w'=>e=.returned (.bool b)∧Below w.heap.size w w':=by
 have HA:=Lib.hid fun (w:World)=>racheck_any (w:=w) (A:=v.A) (ws:=h.ws) v.ca
 have HB:=Lib.hid hb
 have hA:=hm.a
 have hU:=hm.u
 have hV:=hm.v
 have X0:=Hb.new w v.A h.ws.length v.ca h.n v.U h.us.length v.cu v.V h.l.length v.cv 31
 unfold hpV hpv
 obtain ⟨vA,vca,vU,vcu,vV,vcv⟩:=v
 simp only at *
 by_cases q1:h.ws.length ≤ 16384
 ·have e1:errA h.ws True=0:=(resA_in (us:=[]) q1 trivial).2
  rw [e1] at HA
  by_cases q2:Right h.n h.us
  ·have HP:=Lib.hid fun (w:World) hu=>rpcheck_ok (w:=w) (n:=h.n) (A:=vU) (ws:=h.us) vcu hu q2
   by_cases q3:OkL h.l
   ·have HS:=Lib.hid fun (w:World) hv=>xcheckL_any (w:=w) (A:=vV) (l:=h.l) vcv hv h2 0 (.inl ⟨q3,rfl⟩)
    have hn:=q2.1
    have hn2:=q2.2.1
    have hmul:IntKind.i64.wrap (h.n * 16)=h.n * 16:=by rw [IntKind.wrap_i64];omega
    by_cases q4:1 ≤ h.n
    ·have d4:decide (h.n < 1)=false:=decide_eq_false (by omega)
     have HI:=Lib.hid fun (w:World) hr=>is_any (A:=vU) (ws:=h.us) (w:=w) 0 h.n vcu hr (by omega) (by have:=q2.2.2.1;omega) (by have:=q2.2.2.1;omega)
     simp only [Int.toNat_zero] at HI
     have hwl:Hid (h.ws.length ≤ 16384):=Lib.hid q1
     by_cases q5:(h.ws.length:Int)=h.n * 16
     ·have d5:((h.ws.length:Int) != h.n * 16)=false:=by simp [q5]
      generalize hz:tb h.us 0=z at *
      cases z
      obtain rfl:b=false:=bool_false HB.out (fun d=>by have:=d.zero;rw [hz] at this;cases this)
      clear q1 q2 q3 q5 e1
      clear hb hm X0
      go_enter Tryz.func95,Tryz.ntmps95
      go_wp2_with (first
       | (go_at_call 172;refine (HA.out _).mono ?_;rintro e w1 ⟨rfl,hb_w1⟩;obtain ⟨hc_w1,hf_w1⟩:=bcell hb_w1;have hz_w1_w_0:w.heap.size < w1.heap.size:=lY hb_w1.size;have hs_w1:=hb_w1.size;(try simp only [zZ] at hs_w1))
       | (go_at_call 164;refine (HP.out _ (hU.later bX)).mono ?_;rintro e w2 ⟨rfl,hb_w2⟩;obtain ⟨hc_w2,hf_w2⟩:=bcell hb_w2;have hz_w2_w_0:w.heap.size < w2.heap.size:=lY hb_w2.size;have hs_w2:=hb_w2.size;(try simp only [zZ] at hs_w2))
       | (go_at_call 160;refine (HS.out _ (hV.later bX)).mono ?_;rintro e w3 ⟨rfl,hb_w3⟩;obtain ⟨hc_w3,hf_w3⟩:=bcell hb_w3;have hz_w3_w_0:w.heap.size < w3.heap.size:=lY hb_w3.size;have hs_w3:=hb_w3.size;(try simp only [zZ] at hs_w3))
       | (go_at_call 107;refine (HI.out _ (hU.later bX)).mono ?_;rintro e w4 ⟨rfl,hb_w4⟩;obtain ⟨hc_w4,hf_w4⟩:=bcell hb_w4;have hz_w4_w_0:w.heap.size < w4.heap.size:=lY hb_w4.size;have hs_w4:=hb_w4.size;(try simp only [zZ] at hs_w4)))
      go_ret
      exact ⟨rfl,bX⟩
      ·have HR:=Lib.hid q2
       have HO:=Lib.hid q3
       have HF:Hid (((∀ i:Nat,1 ≤ i → (i:Int) < h.n → tb h.us i=anyB h.l i h.l.length)∧(∀ j,j < h.l.length → 1 ≤ (nth h.l j).f∧(nth h.l j).f + (nth h.l j).p ≤ h.n)) ↔ b=true):=Lib.hid ⟨fun e=>HB.out.2 ⟨q1,q2,q3,q4,q5,hz,e.1,e.2⟩,fun e=>⟨(HB.out.1 e).used,(HB.out.1 e).in_⟩⟩
       clear q1 q2 q3 q5 e1 hb hm hz
       go_enter Tryz.func95,Tryz.ntmps95
       go_wp2_with (first
        | (go_at_call 172;refine (HA.out _).mono ?_;rintro e w1 ⟨rfl,hb_w1⟩;obtain ⟨hc_w1,hf_w1⟩:=bcell hb_w1;have hz_w1_w_0:w.heap.size < w1.heap.size:=lY hb_w1.size;have hs_w1:=hb_w1.size;(try simp only [zZ] at hs_w1))
        | (go_at_call 164;refine (HP.out _ (hU.later bX)).mono ?_;rintro e w2 ⟨rfl,hb_w2⟩;obtain ⟨hc_w2,hf_w2⟩:=bcell hb_w2;have hz_w2_w_0:w.heap.size < w2.heap.size:=lY hb_w2.size;have hs_w2:=hb_w2.size;(try simp only [zZ] at hs_w2))
        | (go_at_call 160;refine (HS.out _ (hV.later bX)).mono ?_;rintro e w3 ⟨rfl,hb_w3⟩;obtain ⟨hc_w3,hf_w3⟩:=bcell hb_w3;have hz_w3_w_0:w.heap.size < w3.heap.size:=lY hb_w3.size;have hs_w3:=hb_w3.size;(try simp only [zZ] at hs_w3))
        | (go_at_call 107;refine (HI.out _ (hU.later bX)).mono ?_;rintro e w4 ⟨rfl,hb_w4⟩;obtain ⟨hc_w4,hf_w4⟩:=bcell hb_w4;have hz_w4_w_0:w.heap.size < w4.heap.size:=lY hb_w4.size;have hs_w4:=hb_w4.size;(try simp only [zZ] at hs_w4)))
       have X4:HbV w4 w.heap.size ⟨vA,vca,vU,vcu,vV,vcv⟩ h:=X0.later bX
       have b4:Below w.heap.size w w4:=bX
       have hs4:=X4.lt
       clear X0 hb_w1 hb_w2 hb_w3 hb_w4 hc_w1 hf_w1 hc_w2 hf_w2 hc_w3 hf_w3 hc_w4 hf_w4
       unfold HbV at X4
       simp only at X4
       go_loopw [3] (fun iv wr=>∃ i:Nat,iv=.int .i64 (i:Nat)∧1 ≤ i∧(i:Int) ≤ h.n∧Hid (∀ j:Nat,1 ≤ j → j < i → tb h.us j=anyB h.l j h.l.length)∧Hb wr w.heap.size vA h.ws.length vca h.n vU h.us.length vcu vV h.l.length vcv∧Below w.heap.size w wr) (fun iv _=>h.n.toNat - (intOf iv).toNat)
       case atStart=>exact ⟨1,rfl,Nat.le_refl _,by omega,Lib.hid (by intro j h1 h2;omega),X4,b4⟩
       case round=>
        clear X4 b4 hs4
        obtain ⟨i,rfl,hi1,hin,HD,X,hb_wr⟩:=hrel
        have hsr:=hb_wr.size
        have hlt:=X.lt
        obtain ⟨x0,x1,x2,x3⟩:=id X
        by_cases hi:(i:Int) < h.n
        ·have g1:decide ((i:Int) < h.n)=true:=decide_eq_true hi
         go_wp2_with fail
         clear x0 x1 x2 x3
         generalize wr=wA at *
         go_loopw [4,60] (fun sv kv wr=>∃ k:Nat,sv=.bool (anyB h.l i k)∧kv=.int .i64 (k:Nat)∧k ≤ h.l.length∧Hb wr w.heap.size vA h.ws.length vca h.n vU h.us.length vcu vV h.l.length vcv∧Below w.heap.size w wr) (fun sv kv _=>h.l.length - (intOf kv).toNat)
         case atStart=>exact ⟨0,rfl,rfl,Nat.zero_le _,X,hb_wr⟩
         case round=>
          clear X hb_wr hsr hlt
          obtain ⟨k,rfl,rfl,hk,X,hb_wr⟩:=hrel
          have hsr:=hb_wr.size
          have hlt:=X.lt
          obtain ⟨x0,x1,x2,x3⟩:=id X
          by_cases hkl:k < h.l.length
          ·obtain ⟨g,off,hAe,hg,hc⟩:=hV.at_ (by omega)
           obtain ⟨Aa,ca,Am,cm,c8,_,_⟩:=hc k hkl
           have o1:=HO.out.at_ hkl
           have hSU:Hid (anyB h.l i (k + 1)=(anyB h.l i k || (decide ((nth h.l k).f ≤ (i:Int)) && decide ((i:Int) < (nth h.l k).f + (nth h.l k).p)))):=Lib.hid rfl
           have p1:=o1.placed.1
           have p2:=o1.placed.2
           have ss:=o1.sized.slots
           obtain ⟨d,hd⟩:∃ d,Hid (nth h.l k=d):=⟨_,rfl⟩
           rw [hd.out] at c8 hSU p1 p2 ss
           have c9:=c8.below hb_wr hg
           obtain ⟨s0,s1,s2,s3,s4,s5,s6,s7⟩:=id c9
           have i1:(k:Int) < (h.l.length:Int):=by omega
           have i2:(0:Int) ≤ (k:Int):=by omega
           have hadd:IntKind.i64.wrap (d.f + d.p)=d.f + d.p:=by rw [IntKind.wrap_i64];omega
           have aS:Below wr.heap.size wr (wr.alloc (.cells #[.int .i64 d.f,.int .i64 d.p,.int .i64 d.z,.int .i64 d.an,.slice Aa d.aw.length ca,.int .i64 d.mn,.slice Am d.mw.length cm,.bool d.s] 72)):=Below.alloc (Below.refl _ _) (Nat.le_refl _) _
           have X2:=X.later aS
           have b2:=hb_wr.trans (aS.mono hsr)
           subst hAe
           clear hc c8 c9 o1 X hd aS
           generalize hs:anyB h.l i k=s at *
           cases s
           ·by_cases hf:d.f ≤ (i:Int)
            ·have f1:decide (d.f ≤ (i:Int))=true:=decide_eq_true hf
             by_cases hp:(i:Int) < d.f + d.p
             ·have f2:decide ((i:Int) < d.f + d.p)=true:=decide_eq_true hp
              have hN:Hid (anyB h.l i (k + 1)=true):=Lib.hid (by rw [hSU.out,f1,f2];rfl)
              clear hSU hs hf hp
              go_wp2
              go_roundw
              case rel=>exact ⟨k + 1,by rw [hN.out],by go_num,by omega,X2,b2⟩
              case measure=>simp [intOf];omega
             ·have f2:decide ((i:Int) < d.f + d.p)=false:=decide_eq_false hp
              have hN:Hid (anyB h.l i (k + 1)=false):=Lib.hid (by rw [hSU.out,f1,f2];rfl)
              clear hSU hs hf hp
              go_wp2
              go_roundw
              case rel=>exact ⟨k + 1,by rw [hN.out],by go_num,by omega,X2,b2⟩
              case measure=>simp [intOf];omega
            ·have f1:decide (d.f ≤ (i:Int))=false:=decide_eq_false hf
             have hN:Hid (anyB h.l i (k + 1)=false):=Lib.hid (by rw [hSU.out,f1];rfl)
             clear hSU hs hf
             go_wp2
             go_roundw
             case rel=>exact ⟨k + 1,by rw [hN.out],by go_num,by omega,X2,b2⟩
             case measure=>simp [intOf];omega
           ·have hN:Hid (anyB h.l i (k + 1)=true):=Lib.hid (by rw [hSU.out];rfl)
            clear hSU hs
            go_wp2
            go_roundw
            case rel=>exact ⟨k + 1,by rw [hN.out],by go_num,by omega,X2,b2⟩
            case measure=>simp [intOf];omega
          ·obtain rfl:k=h.l.length:=by omega
           have HI2:=Lib.hid fun (w:World) hr=>is_any (A:=vU) (ws:=h.us) (w:=w) (i:Nat) h.n vcu hr (by omega) (by have:=HR.out.2.2.1;omega) (by have:=HR.out.2.2.1;omega)
           simp only [Int.toNat_natCast] at HI2
           by_cases he:tb h.us i=anyB h.l i h.l.length
           ·have HD2:Hid (∀ j:Nat,1 ≤ j → j < i + 1 → tb h.us j=anyB h.l j h.l.length):=Lib.hid fun j h1 h2=>by
             by_cases e:j=i
             ·rw [e];exact he
             ·exact HD.out j h1 (by omega)
            rw [he] at HI2
            have d9:(anyB h.l i h.l.length != anyB h.l i h.l.length)=false:=by simp
            clear HD he
            go_wp2_with fail
            go_at_call 107
            refine (HI2.out _ (hU.later bX)).mono ?_
            rintro e w5 ⟨rfl,hb_w5⟩
            have X5:=X.later hb_w5
            have b5:=hb_wr.trans (hb_w5.mono hsr)
            clear x0 x1 x2 x3
            obtain ⟨x0,x1,x2,x3⟩:=id X5
            go_wp2
            exact ⟨⟨i + 1,by go_num,by omega,by omega,HD2,X5,b5⟩,by simp [intOf];omega⟩
           ·obtain rfl:b=false:=by
             rcases b with _ | _
             ·rfl
             ·exact absurd ((HF.out.2 rfl).1 i hi1 hi) he
            clear HD
            generalize tb h.us i=u at *
            generalize anyB h.l i h.l.length=z at *
            cases u <;> cases z
            ·exact absurd rfl he
            ·clear he
             go_wp2_with fail
             go_at_call 107
             refine (HI2.out _ (hU.later bX)).mono ?_
             rintro e w5 ⟨rfl,hb_w5⟩
             have X5:=X.later hb_w5
             have b5:=hb_wr.trans (hb_w5.mono hsr)
             clear x0 x1 x2 x3
             obtain ⟨x0,x1,x2,x3⟩:=id X5
             go_wp2
             go_ret
             exact ⟨rfl,b5⟩
            ·clear he
             go_wp2_with fail
             go_at_call 107
             refine (HI2.out _ (hU.later bX)).mono ?_
             rintro e w5 ⟨rfl,hb_w5⟩
             have X5:=X.later hb_w5
             have b5:=hb_wr.trans (hb_w5.mono hsr)
             clear x0 x1 x2 x3
             obtain ⟨x0,x1,x2,x3⟩:=id X5
             go_wp2
             go_ret
             exact ⟨rfl,b5⟩
            ·exact absurd rfl he
        ·have g1:decide ((i:Int) < h.n)=false:=decide_eq_false hi
         have HU:Hid (∀ j:Nat,1 ≤ j → (j:Int) < h.n → tb h.us j=anyB h.l j h.l.length):=Lib.hid fun j h1 h2=>HD.out j h1 (by omega)
         clear HD
         go_wp2_with fail
         clear x0 x1 x2 x3
         generalize wr=wA at *
         go_loopw [91] (fun kv wr=>∃ k:Nat,kv=.int .i64 (k:Nat)∧k ≤ h.l.length∧Hid (∀ j,j < k → 1 ≤ (nth h.l j).f∧(nth h.l j).f + (nth h.l j).p ≤ h.n)∧Hb wr w.heap.size vA h.ws.length vca h.n vU h.us.length vcu vV h.l.length vcv∧Below w.heap.size w wr) (fun kv _=>h.l.length - (intOf kv).toNat)
         case atStart=>exact ⟨0,rfl,Nat.zero_le _,Lib.hid (by intro j hj;omega),X,hb_wr⟩
         case round=>
          clear X hb_wr hsr hlt
          obtain ⟨k,rfl,hk,HD,X,hb_wr⟩:=hrel
          have hsr:=hb_wr.size
          have hlt:=X.lt
          obtain ⟨x0,x1,x2,x3⟩:=id X
          by_cases hkl:k < h.l.length
          ·obtain ⟨g,off,hAe,hg,hc⟩:=hV.at_ (by omega)
           obtain ⟨Aa,ca,Am,cm,c8,_,_⟩:=hc k hkl
           have o1:=HO.out.at_ hkl
           have p1:=o1.placed.1
           have p2:=o1.placed.2
           have ss:=o1.sized.slots
           obtain ⟨d,hd⟩:∃ d,Hid (nth h.l k=d):=⟨_,rfl⟩
           rw [hd.out] at c8 p1 p2 ss
           have c9:=c8.below hb_wr hg
           obtain ⟨s0,s1,s2,s3,s4,s5,s6,s7⟩:=id c9
           have i1:(k:Int) < (h.l.length:Int):=by omega
           have i2:(0:Int) ≤ (k:Int):=by omega
           have hadd:IntKind.i64.wrap (d.f + d.p)=d.f + d.p:=by rw [IntKind.wrap_i64];omega
           have aS:Below wr.heap.size wr (wr.alloc (.cells #[.int .i64 d.f,.int .i64 d.p,.int .i64 d.z,.int .i64 d.an,.slice Aa d.aw.length ca,.int .i64 d.mn,.slice Am d.mw.length cm,.bool d.s] 72)):=Below.alloc (Below.refl _ _) (Nat.le_refl _) _
           have X2:=X.later aS
           have b2:=hb_wr.trans (aS.mono hsr)
           subst hAe
           clear hc c8 c9 o1 X aS
           by_cases hf:d.f < 1
           ·have f1:decide (d.f < 1)=true:=decide_eq_true hf
            obtain rfl:b=false:=by
             rcases b with _ | _
             ·rfl
             ·have:=(HF.out.2 rfl).2 k hkl;rw [hd.out] at this;omega
            clear hf
            go_wp2
            go_ret
            exact ⟨rfl,b2⟩
           ·have f1:decide (d.f < 1)=false:=decide_eq_false hf
            by_cases hp:h.n < d.f + d.p
            ·have f2:decide (h.n < d.f + d.p)=true:=decide_eq_true hp
             obtain rfl:b=false:=by
              rcases b with _ | _
              ·rfl
              ·have:=(HF.out.2 rfl).2 k hkl;rw [hd.out] at this;omega
             clear hf hp
             go_wp2
             go_ret
             exact ⟨rfl,b2⟩
            ·have f2:decide (h.n < d.f + d.p)=false:=decide_eq_false hp
             have HD2:Hid (∀ j,j < k + 1 → 1 ≤ (nth h.l j).f∧(nth h.l j).f + (nth h.l j).p ≤ h.n):=Lib.hid fun j hj=>by
              by_cases e:j=k
              ·rw [e,hd.out];omega
              ·exact HD.out j (by omega)
             clear hf hp HD hd
             go_wp2
             go_roundw
             case rel=>exact ⟨k + 1,by go_num,by omega,HD2,X2,b2⟩
             case measure=>simp [intOf];omega
          ·obtain rfl:k=h.l.length:=by omega
           obtain rfl:b=true:=HF.out.1 ⟨HU.out,HD.out⟩
           go_wp2
           go_ret
           exact ⟨rfl,hb_wr⟩
     ·have d5:((h.ws.length:Int) != h.n * 16)=true:=by simpa using q5
      obtain rfl:b=false:=bool_false HB.out (fun d=>q5 d.long)
      clear q1 q2 q3 e1
      clear hb hm X0
      go_enter Tryz.func95,Tryz.ntmps95
      go_wp2_with (first
       | (go_at_call 172;refine (HA.out _).mono ?_;rintro e w1 ⟨rfl,hb_w1⟩;obtain ⟨hc_w1,hf_w1⟩:=bcell hb_w1;have hz_w1_w_0:w.heap.size < w1.heap.size:=lY hb_w1.size;have hs_w1:=hb_w1.size;(try simp only [zZ] at hs_w1))
       | (go_at_call 164;refine (HP.out _ (hU.later bX)).mono ?_;rintro e w2 ⟨rfl,hb_w2⟩;obtain ⟨hc_w2,hf_w2⟩:=bcell hb_w2;have hz_w2_w_0:w.heap.size < w2.heap.size:=lY hb_w2.size;have hs_w2:=hb_w2.size;(try simp only [zZ] at hs_w2))
       | (go_at_call 160;refine (HS.out _ (hV.later bX)).mono ?_;rintro e w3 ⟨rfl,hb_w3⟩;obtain ⟨hc_w3,hf_w3⟩:=bcell hb_w3;have hz_w3_w_0:w.heap.size < w3.heap.size:=lY hb_w3.size;have hs_w3:=hb_w3.size;(try simp only [zZ] at hs_w3)))
      go_ret
      exact ⟨rfl,bX⟩
    ·have d4:decide (h.n < 1)=true:=decide_eq_true (by omega)
     obtain rfl:b=false:=bool_false HB.out (fun d=>q4 d.some_)
     clear q1 q2 q3 e1
     clear hb hm X0
     go_enter Tryz.func95,Tryz.ntmps95
     go_wp2_with (first
      | (go_at_call 172;refine (HA.out _).mono ?_;rintro e w1 ⟨rfl,hb_w1⟩;obtain ⟨hc_w1,hf_w1⟩:=bcell hb_w1;have hz_w1_w_0:w.heap.size < w1.heap.size:=lY hb_w1.size;have hs_w1:=hb_w1.size;(try simp only [zZ] at hs_w1))
      | (go_at_call 164;refine (HP.out _ (hU.later bX)).mono ?_;rintro e w2 ⟨rfl,hb_w2⟩;obtain ⟨hc_w2,hf_w2⟩:=bcell hb_w2;have hz_w2_w_0:w.heap.size < w2.heap.size:=lY hb_w2.size;have hs_w2:=hb_w2.size;(try simp only [zZ] at hs_w2))
      | (go_at_call 160;refine (HS.out _ (hV.later bX)).mono ?_;rintro e w3 ⟨rfl,hb_w3⟩;obtain ⟨hc_w3,hf_w3⟩:=bcell hb_w3;have hz_w3_w_0:w.heap.size < w3.heap.size:=lY hb_w3.size;have hs_w3:=hb_w3.size;(try simp only [zZ] at hs_w3)))
     go_ret
     exact ⟨rfl,bX⟩
   ·have HS:=Lib.hid fun (w:World) hv=>xcheckL_any (w:=w) (A:=vV) (l:=h.l) vcv hv h2 2 (.inr ⟨q3,rfl⟩)
    obtain rfl:b=false:=bool_false HB.out (fun d=>q3 d.spans)
    clear q1 q2 e1
    clear hb hm X0
    go_enter Tryz.func95,Tryz.ntmps95
    go_wp2_with (first
     | (go_at_call 172;refine (HA.out _).mono ?_;rintro e w1 ⟨rfl,hb_w1⟩;obtain ⟨hc_w1,hf_w1⟩:=bcell hb_w1;have hz_w1_w_0:w.heap.size < w1.heap.size:=lY hb_w1.size;have hs_w1:=hb_w1.size;(try simp only [zZ] at hs_w1))
     | (go_at_call 164;refine (HP.out _ (hU.later bX)).mono ?_;rintro e w2 ⟨rfl,hb_w2⟩;obtain ⟨hc_w2,hf_w2⟩:=bcell hb_w2;have hz_w2_w_0:w.heap.size < w2.heap.size:=lY hb_w2.size;have hs_w2:=hb_w2.size;(try simp only [zZ] at hs_w2))
     | (go_at_call 160;refine (HS.out _ (hV.later bX)).mono ?_;rintro e w3 ⟨rfl,hb_w3⟩;obtain ⟨hc_w3,hf_w3⟩:=bcell hb_w3;have hz_w3_w_0:w.heap.size < w3.heap.size:=lY hb_w3.size;have hs_w3:=hb_w3.size;(try simp only [zZ] at hs_w3)))
    go_ret
    exact ⟨rfl,bX⟩
  ·have HP:=Lib.hid fun (w:World) hu=>rpcheck_bad (w:=w) (n:=h.n) (A:=vU) (ws:=h.us) vcu hu q2
   obtain rfl:b=false:=bool_false HB.out (fun d=>q2 d.pages)
   clear q1 e1
   clear hb hm X0
   go_enter Tryz.func95,Tryz.ntmps95
   go_wp2_with (first
    | (go_at_call 172;refine (HA.out _).mono ?_;rintro e w1 ⟨rfl,hb_w1⟩;obtain ⟨hc_w1,hf_w1⟩:=bcell hb_w1;have hz_w1_w_0:w.heap.size < w1.heap.size:=lY hb_w1.size;have hs_w1:=hb_w1.size;(try simp only [zZ] at hs_w1))
    | (go_at_call 164;refine (HP.out _ (hU.later bX)).mono ?_;rintro e w2 ⟨rfl,hb_w2⟩;obtain ⟨hc_w2,hf_w2⟩:=bcell hb_w2;have hz_w2_w_0:w.heap.size < w2.heap.size:=lY hb_w2.size;have hs_w2:=hb_w2.size;(try simp only [zZ] at hs_w2)))
   go_ret
   exact ⟨rfl,bX⟩
 ·have e1:errA h.ws True=2:=(resA_bad (us:=[]) (p:=True) q1).2
  rw [e1] at HA
  obtain rfl:b=false:=bool_false HB.out (fun d=>q1 d.words)
  clear e1
  clear hb hm X0
  go_enter Tryz.func95,Tryz.ntmps95
  go_wp2_with (first
   | (go_at_call 172;refine (HA.out _).mono ?_;rintro e w1 ⟨rfl,hb_w1⟩;obtain ⟨hc_w1,hf_w1⟩:=bcell hb_w1;have hz_w1_w_0:w.heap.size < w1.heap.size:=lY hb_w1.size;have hs_w1:=hb_w1.size;(try simp only [zZ] at hs_w1)))
  go_ret
  exact ⟨rfl,bX⟩
def inO (o:Ob) (i:Nat):Bool:=decide (o.a ≤ i) && decide (i < o.a + (o.n.toNat + 1))
def thB (os:List Ob) (i:Nat):Bool:=os.any fun o=>inO o i
theorem thB_iff (os:List Ob) (i:Nat):thB os i=true ↔ Theirs os i:=by
 unfold thB Theirs inO
 rw [List.any_eq_true]
 constructor
 ·rintro ⟨o,ho,h⟩
  rw [Bool.and_eq_true,decide_eq_true_eq,decide_eq_true_eq] at h
  exact ⟨o,ho,by omega⟩
 ·rintro ⟨o,ho,h⟩
  refine ⟨o,ho,?_⟩
  rw [Bool.and_eq_true,decide_eq_true_eq,decide_eq_true_eq]
  omega
def thK (os:List Ob) (o:Ob) (k:Nat) (i:Nat):Bool:=thB os i || (decide (o.a ≤ i) && decide (i < o.a + k))
theorem thK_zero (os:List Ob) (o:Ob):thK os o 0=thB os:=by
 funext i
 unfold thK
 rcases h:(decide (o.a ≤ i) && decide (i < o.a + 0)) with _ | _
 ·simp
 ·rw [Bool.and_eq_true,decide_eq_true_eq,decide_eq_true_eq] at h
  omega
theorem thK_succ (os:List Ob) (o:Ob) (k:Nat):thK os o (k + 1)=fun i=>if i=o.a + k then true else thK os o k i:=by
 funext i
 unfold thK
 by_cases h:i=o.a + k
 ·rw [if_pos h]
  have h1:decide (o.a ≤ i)=true:=decide_eq_true (by omega)
  have h2:decide (i < o.a + (k + 1))=true:=decide_eq_true (by omega)
  rw [h1,h2];simp
 ·rw [if_neg h]
  have h2:decide (i < o.a + (k + 1))=decide (i < o.a + k):=by rw [decide_eq_decide];omega
  rw [h2]
theorem thK_all (os:List Ob) (o:Ob):thK os o (o.n.toNat + 1)=thB (os ++ [o]):=by
 funext i
 unfold thK thB inO
 rw [List.any_append]
 simp
def FdO (os:List Ob) (x:Nat):Prop:=x=0 ∨ ∃ o ∈ os,o.a=x∧o.c=true
def LkO (ws:List Nat) (os:List Ob) (o:Ob) (F:Nat):Prop:=o.c=true → ∀ f:Nat,f < F → o.m.testBit f=true → FdO os (ws.getD (o.a + 1 + f) 0)
theorem LkO.step {ws:List Nat} {os:List Ob} {o:Ob} {F:Nat} (h:LkO ws os o F) (hk:o.c=true → o.m.testBit F=true → FdO os (ws.getD (o.a + 1 + F) 0)):LkO ws os o (F + 1):=fun hc f hf hb=>by
 by_cases e:f=F
 ·subst e;exact hk hc hb
 ·exact h hc f (by omega) hb
theorem fdO_cur {h:Hp} (hl:OkL h.l) (x:Nat):FdO (obsH h) x ↔ (x=0 ∨ Cur h x):=by
 unfold FdO
 rw [← mem_addrs hl]
 unfold addrs cursH
 rw [List.mem_map]
 constructor
 ·rintro (h1 | ⟨o,h1,h2,h3⟩)
  ·exact .inl h1
  ·exact .inr ⟨o,List.mem_filter.2 ⟨h1,by simpa using h3⟩,h2⟩
 ·rintro (h1 | ⟨o,h1,h2⟩)
  ·exact .inl h1
  ·have h3:=List.mem_filter.1 h1
   exact .inr ⟨o,h3.1,h2,by simpa using h3.2⟩
theorem linkedO_iff {h:Hp} (hl:OkL h.l):Linked h ↔ ∀ o ∈ obsH h,LkO h.ws (obsH h) o o.n.toNat:=by
 constructor
 ·intro hk o ho hc f hf hb
  have h1:=hk o (List.mem_filter.2 ⟨ho,by simpa using hc⟩) f (by omega) hb
  rw [leads_iff hl] at h1
  exact (fdO_cur hl _).2 h1
 ·intro hk o ho f hf hb
  have h3:=List.mem_filter.1 ho
  rw [leads_iff hl]
  exact (fdO_cur hl _).1 (hk o h3.1 (by simpa using h3.2) f (by omega) hb)
theorem fdE_fdO {os:List Ob} {a:Nat} {r:Ob} {b:Bool} (h:FdE os a r b) (ha:a ≠ 0):b=true ↔ FdO os a:=by
 rcases h with ⟨rfl,_,h⟩ | ⟨rfl,k,hk,h1,h2,h3,_⟩
 ·constructor
  ·intro e;cases e
  ·rintro (e | ⟨o,ho,e⟩)
   ·exact absurd e ha
   ·exact absurd e (h o ho)
 ·exact ⟨fun _=>.inr ⟨os[k],List.getElem_mem hk,by rw [h1];exact h2,by rw [h1];exact h3⟩,fun _=>rfl⟩
structure BRow (w:World) (b n:Nat) (T:Nat → Bool):Prop where
 lt:b < w.heap.size
 at_:∀ i,i < n → w.cell? ⟨b,i,none⟩=some (.bool (T i))∧w.frozen? ⟨b,i,none⟩=false
theorem BRow.below {w w':World} {B b n:Nat} {T:Nat → Bool} (h:BRow w b n T) (hb:Below B w w') (hB:b < B):BRow w' b n T:=
 ⟨Nat.lt_of_lt_of_le h.lt hb.size,fun i hi=>⟨((bcell hb).1 _ _ hB).trans (h.at_ i hi).1,((bcell hb).2 _ _ hB).trans (h.at_ i hi).2⟩⟩
theorem BRow.later {w w':World} {b n:Nat} {T:Nat → Bool} (h:BRow w b n T) (hb:Below w.heap.size w w'):BRow w' b n T:=h.below hb h.lt
theorem BRow.set {w:World} {b n:Nat} {T:Nat → Bool} (h:BRow w b n T) {j:Nat} (hj:j < n) (v:Bool):BRow (w.setCell ⟨b,j,none⟩ (.bool v)) b n (fun i=>if i=j then v else T i):=
 ⟨by rw [World.size_setCell];exact h.lt,fun i hi=>⟨by
  by_cases e:i=j
  ·subst e
   simp only [if_true]
   exact World.cell?_setCell_same _ _ _ (h.at_ i hi).1
  ·simp only [if_neg e]
   exact (cO _ ⟨b,j,none⟩ ⟨b,i,none⟩ _ (by intro e2;injection e2 with _ e2;exact e e2.symm)).trans (h.at_ i hi).1,by rw [World.frozen?_setCell];exact (h.at_ i hi).2⟩⟩
def boolz (n:Nat):List Value:=List.replicate n (.bool false)
theorem info_bool:(Tryz.prog.info? 4).map (fun i=>(i.zero,i.size,i.bytes))=some (some (.bool false),1,1):=by kernel_rfl
theorem run_make_boolz (n:Nat) (hn:n ≤ 16384) (W:World) :
  (Instr.makeSlice 64 (.int .i64 (n:Int)) (.int .i64 (n:Int))).run Tryz.prog W=.ok (.slice (some ⟨W.heap.size,0,none⟩) n n) (W.alloc (.cells (boolz n).toArray 4)):=by
 obtain ⟨i0,hi,hz0,hz1,hz2⟩:=info_parts info_bool
 have h:=run_make (P:=Tryz.prog) W 64 4 i0 _ Tryz.underlying64 hi hz0 .i64 .i64 (n:Int) (n:Int) (by omega) (by omega) (by rw [hz2];omega) (by omega)
 rw [h,hz1,Nat.mul_one,Int.toNat_natCast]
 have e:madeCells #[Value.bool false] n=(boolz n).toArray:=by
  apply Array.ext'
  rw [toList_madeCells_one]
  simp [boolz]
 show _=Result.ok _ (World.alloc W (.cells (boolz n).toArray 4))
 rw [← e]
 rfl
theorem BRow.of_block {w:World} {b n:Nat} (h:w.heap[b]?=some (.cells (boolz n).toArray 4 (0,0))):BRow w b n (fun _=>false):=
 ⟨heap_lt h,fun i hi=>⟨by rw [cell_of_row w b i _ _ (0,0) h,List.getElem?_toArray];unfold boolz;rw [List.getElem?_replicate,if_pos hi],by simp [World.frozen?,h]⟩⟩
theorem BRow.new (w:World) (n:Nat):BRow (w.alloc (.cells (boolz n).toArray 4)) w.heap.size n (fun _=>false):=BRow.of_block (heap_alloc_new w _)
def LdE (h:Hp) (a:Nat) (r:Ob) (y:Int):Prop:=(¬ OkH h∧r=obZ∧y=2) ∨ (OkH h∧r=fnO h a∧y=fnY h a)
theorem LdE.ex (h:Hp) (a:Nat):∃ r y,LdE h a r y:=by
 by_cases hk:OkH h
 ·exact ⟨_,_,.inr ⟨hk,rfl,rfl⟩⟩
 ·exact ⟨_,_,.inl ⟨hk,rfl,rfl⟩⟩
theorem obsH_len {h:Hp} (hl:OkL h.l):(obsH h).length ≤ 2048:=by
 have h1:=obsL_len (ws:=h.ws) hl (Nat.le_refl h.l.length)
 have h3:=hl.1
 unfold obsH
 omega
theorem flatX_cons (o:Ob) (l:List Ob):flatX (o :: l)=cellsX o ++ flatX l:=by unfold flatX;rw [List.flatMap_cons]
theorem flatX_at (l:List Ob) (i j:Nat) (hj:j < 6):(flatX l)[i * 6 + j]?=l[i]?.bind fun o=>(cellsX o)[j]?:=by
 induction l generalizing i with
 | nil=>simp [flatX]
 | cons o l ih=>
  cases i with
  | zero=>
   rw [flatX_cons,List.getElem?_append_left (by simp [cellsX];omega)]
   simp
  | succ i=>
   rw [flatX_cons,List.getElem?_append_right (by simp [cellsX];omega)]
   have:(i + 1) * 6 + j - (cellsX o).length=i * 6 + j:=by simp [cellsX];omega
   rw [this,ih]
   simp
theorem XRow.of {w:World} {B n cap:Nat} {A:Option Addr} {os:List Ob} (h:w.ownsRow B 156 6 (.slice A n cap) n (flatX os)) (hn:os.length=n):XRow w w.heap.size A os:=⟨fun hl=>by
 obtain ⟨_,⟨h1,h2⟩ | ⟨g,cap',cur,e,_⟩⟩:=id h
 ·omega
 ·injection e with e1 _ e3
  subst e1
  refine ⟨g,0,rfl,(h.lt g rfl).2,fun i hi=>?_⟩
  have k:∀ j,j < 6 → ∀ u,(cellsX os[i])[j]?=some u → w.cell? ⟨g,0 + i * 6 + j,none⟩=some u:=fun j hj u hu=>by
   rw [Nat.zero_add,h.cellAt (i * 6 + j) (by omega),flatX_at os i j hj,List.getElem?_eq_getElem hi]
   exact hu
  exact ⟨k 0 (by omega) _ rfl,k 1 (by omega) _ rfl,k 2 (by omega) _ rfl,k 3 (by omega) _ rfl,k 4 (by omega) _ rfl,k 5 (by omega) _ rfl⟩⟩
theorem heads_ob {h:Hp} (hf:Framed h) (ho:Owned h) (hs:Heads h) {o:Ob} (hm:o ∈ obsH h):16 ≤ o.a∧o.a + o.n.toNat + 1 ≤ h.ws.length∧0 ≤ o.n∧o.n ≤ 48∧o.m < W64:=by
 obtain ⟨j,k,h1,h2,h3,rfl⟩:=mem_obsL hm
 have ok:=hf.spans.at_ h1
 obtain ⟨hu,hfit⟩:=hs j h1 k h2 h3
 obtain ⟨b0,b1⟩:=unN_bounds (h.ws.getD (slA (nth h.l j) k) 0)
 have hr:=szn_room b0 b1 hfit
 have hin:=ok.slA_in h2
 have hw:=ho.in_ j h1
 have hl:=hf.long
 have hsz:=ok.sized.slots
 refine ⟨?_,?_,b0,b1,unM_lt _⟩
 ·show 16 ≤ slA (nth h.l j) k
  omega
 ·show slA (nth h.l j) k + (unN (h.ws.getD (slA (nth h.l j) k) 0)).toNat + 1 ≤ h.ws.length
  omega
theorem Six.far {w:World} {b:Nat} {v0 v1 v2 v3 v4 v5:Value} (h:Six w b v0 v1 v2 v3 v4 v5) {p:Addr} (hp:p.block ≠ b) (u:Value):Six (w.setCell p u) b v0 v1 v2 v3 v4 v5:=by
 have k:∀ i,(w.setCell p u).cell? ⟨b,i,none⟩=w.cell? ⟨b,i,none⟩:=fun i=>cO _ _ _ _ (by intro e;exact hp (by rw [e]))
 exact ⟨(k _).trans h.c0,(k _).trans h.c1,(k _).trans h.c2,(k _).trans h.c3,(k _).trans h.c4,(k _).trans h.c5,fun i=>by simp only [World.frozen?_setCell];exact h.f i⟩
set_option maxHeartbeats 4000000 in
theorem xfindO_any {w:World} {A:Option Addr} {os:List Ob} (cap:Nat) (hr:XRow w w.heap.size A os) (hl:os.length ≤ 100000) (a:Nat) (r:Ob) (b:Bool) (hE:FdE os a r b) :
  Calls Tryz.prog 98 #[.slice A os.length cap,.int .u64 (a:Nat)] w fun e w'=>e=.returned (.tuple #[obX r,.bool b])∧Below w.heap.size w w':=by
 have HE:=Lib.hid hE
 have Z0:=Six.new w (.int .i64 0) (.int .i64 0) (.int .u64 0) (.int .i64 0) (.int .u64 0) (.bool false) 156
 have b0:Below w.heap.size w (w.alloc (.cells #[.int .i64 0,.int .i64 0,.int .u64 0,.int .i64 0,.int .u64 0,.bool false] 156)):=Below.alloc (Below.refl _ _) (Nat.le_refl _) _
 clear hE
 unfold obX
 go_enter Tryz.func98,Tryz.ntmps98
 go_wp2_with fail
 go_loopw [10] (fun ii wr=>∃ k:Nat,ii=.int .i64 (k:Nat)∧k ≤ os.length∧(∀ j (hj:j < os.length),j < k → ¬ (os[j].a=a∧os[j].c=true))∧Six wr w.heap.size (.int .i64 0) (.int .i64 0) (.int .u64 0) (.int .i64 0) (.int .u64 0) (.bool false)∧Below w.heap.size w wr) (fun ii _=>os.length - (intOf ii).toNat)
 case atStart=>exact ⟨0,rfl,Nat.zero_le _,fun j _ hj=>absurd hj (Nat.not_lt_zero j),Z0,b0⟩
 case round=>
  clear Z0 b0
  obtain ⟨k,rfl,hk,hno,Z,hb⟩:=hrel
  have HN:=Lib.hid hno
  clear hno
  have hsz:=hb.size
  have hzl:=Z.lt
  by_cases hlt:k < os.length
  ·obtain ⟨g,off,rfl,hg,hc⟩:=hr.at_ (by omega)
   have x:=hc k hlt
   have q0:=((bcell hb).1 _ _ hg).trans x.c0
   have q1:=((bcell hb).1 _ _ hg).trans x.c1
   have q2:=((bcell hb).1 _ _ hg).trans x.c2
   have q3:=((bcell hb).1 _ _ hg).trans x.c3
   have q4:=((bcell hb).1 _ _ hg).trans x.c4
   have q5:=((bcell hb).1 _ _ hg).trans x.c5
   have HX:Hid (∃ o,os[k]=o):=Lib.hid ⟨_,rfl⟩
   obtain ⟨o,ho⟩:=HX.out
   have HO:=Lib.hid ho
   rw [ho] at q0 q1 q2 q3 q4 q5
   have i3:(k:Int) < (os.length:Int):=by omega
   have i4:(0:Int) ≤ (k:Int):=by omega
   have aS:Below wr.heap.size wr (wr.alloc (.cells #[.int .i64 o.i,.int .i64 o.k,.int .u64 o.a,.int .i64 o.n,.int .u64 o.m,.bool o.c] 156)):=Below.alloc (Below.refl _ _) (Nat.le_refl _) _
   have Z2:=Z.later aS
   have b2:=hb.trans (aS.mono hsz)
   clear hc x HX ho aS
   by_cases ha:o.a=a
   ·subst ha
    have d1:(((o.a:Nat):Int) == ((o.a:Nat):Int))=true:=by simp
    obtain hoc | hoc:o.c=false ∨ o.c=true:=by cases o.c <;> simp
    ·rw [hoc] at q5 Z2 b2
     have HC:=Lib.hid hoc
     clear hoc
     go_wp2
     go_roundw
     case rel=>exact ⟨k + 1,by go_num,by omega,fun j hj h1=>(by
      by_cases e:j=k
      ·subst e;rw [HO.out];intro h;rw [HC.out] at h;cases h.2
      ·exact HN.out j hj (by omega)),Z2,b2⟩
     case measure=>simp [intOf];omega
    ·rw [hoc] at q5 Z2 b2
     have HC:=Lib.hid hoc
     clear hoc
     obtain ⟨z0,z1,z2,z3,z4,z5,zf⟩:=id Z
     have f0:=zf 0
     have f1:=zf 1
     have f2:=zf 2
     have f3:=zf 3
     have f4:=zf 4
     have f5:=zf 5
     have hr0:r=o∧b=true:=by
      rcases HE.out with ⟨_,_,h⟩ | ⟨hb,q,hq,h1,h2,h3,h4⟩
      ·exact ((h o (by rw [← HO.out];exact List.getElem_mem hlt)) ⟨rfl,HC.out⟩).elim
      ·refine ⟨?_,hb⟩
       rcases Nat.lt_trichotomy q k with g1 | g1 | g1
       ·exact absurd ⟨by rw [h1];exact h2,by rw [h1];exact h3⟩ (HN.out q hq g1)
       ·subst g1;rw [← h1,HO.out]
       ·exact ((h4 k g1) ⟨by rw [HO.out],by rw [HO.out];exact HC.out⟩).elim
     obtain ⟨rfl,rfl⟩:=hr0
     have E9:=Z.all (.int .i64 r.i) (.int .i64 r.k) (.int .u64 r.a) (.int .i64 r.n) (.int .u64 r.m) (.bool true)
     have b9:=below_six hb (b:=w.heap.size) (Nat.le_refl _) (.int .i64 r.i) (.int .i64 r.k) (.int .u64 r.a) (.int .i64 r.n) (.int .u64 r.m) (.bool true)
     have E10:=E9.later (Below.alloc (Below.refl _ _) (Nat.le_refl _) (.cells #[.int .i64 r.i,.int .i64 r.k,.int .u64 r.a,.int .i64 r.n,.int .u64 r.m,.bool true] 156))
     have b10:=b9.alloc b9.size (.cells #[.int .i64 r.i,.int .i64 r.k,.int .u64 r.a,.int .i64 r.n,.int .u64 r.m,.bool true] 156)
     clear zf Z Z2 b2 E9 b9
     go_wp2
     exact bodyPost_ret (res_six2 rfl rfl E10) rfl ⟨(by rw [HC.out];rfl),b10⟩
   ·have d1:(((o.a:Nat):Int) == ((a:Nat):Int))=false:=by simp;omega
    go_wp2
    go_roundw
    case rel=>exact ⟨k + 1,by go_num,by omega,fun j hj h1=>(by
     by_cases e:j=k
     ·subst e;rw [HO.out];exact fun h=>ha h.1
     ·exact HN.out j hj (by omega)),Z2,b2⟩
    case measure=>simp [intOf];omega
  ·obtain rfl:k=os.length:=by omega
   have hr0:r=obZ∧b=false:=by
    rcases HE.out with ⟨h1,h2,_⟩ | ⟨_,q,hq,h1,h2,h3,_⟩
    ·exact ⟨h2,h1⟩
    ·exact absurd ⟨by rw [h1];exact h2,by rw [h1];exact h3⟩ (HN.out q hq hq)
   obtain ⟨rfl,rfl⟩:=hr0
   obtain ⟨z0,z1,z2,z3,z4,z5,zf⟩:=id Z
   have f0:=zf 0
   have f1:=zf 1
   have f2:=zf 2
   have f3:=zf 3
   have f4:=zf 4
   have f5:=zf 5
   have E9:=Z.all (.int .i64 0) (.int .i64 0) (.int .u64 0) (.int .i64 0) (.int .u64 0) (.bool false)
   have b9:=below_six hb (b:=w.heap.size) (Nat.le_refl _) (.int .i64 0) (.int .i64 0) (.int .u64 0) (.int .i64 0) (.int .u64 0) (.bool false)
   clear zf
   try unfold obZ
   go_wp2
   exact bodyPost_ret (res_six2 rfl rfl E9) rfl ⟨rfl,b9⟩
set_option maxHeartbeats 8000000 in
theorem xcheckH_any {w:World} {v:Hv} {h:Hp} (hm:HM w w.heap.size v h) (h2:h.l.length ≤ 17592186044416) (y:Int) (hy:(OkH h∧y=0) ∨ (¬ OkH h∧y=2)) :
  Calls Tryz.prog 22 #[hpV v h] w fun e w'=>e=.returned (.int .i64 y)∧Below w.heap.size w w':=by
 rw [← okD_iff] at hy
 have HY:Hid (OkD h → y=0):=Lib.hid fun k=>by rcases hy with ⟨_,e⟩ | ⟨e,_⟩;exact e;exact absurd k e
 have HN:Hid (¬ OkD h → y=2):=Lib.hid fun k=>by rcases hy with ⟨e,_⟩ | ⟨_,e⟩;exact absurd e k;exact e
 clear hy
 have X0:=Hb.new w v.A h.ws.length v.ca h.n v.U h.us.length v.cu v.V h.l.length v.cv 31
 have m1:HM (w.alloc (.cells #[.slice v.A h.ws.length v.ca,.int .i64 h.n,.slice v.U h.us.length v.cu,.slice v.V h.l.length v.cv] 31)) (w.alloc (.cells #[.slice v.A h.ws.length v.ca,.int .i64 h.n,.slice v.U h.us.length v.cu,.slice v.V h.l.length v.cv] 31)).heap.size v h:=hm.later bX
 by_cases qf:FrmD h
 ·obtain ⟨hF,hO⟩:=(frmD_iff h).1 qf
  have HFR:=Lib.hid fun (w:World) m=>xframed_any (w:=w) (v:=v) (h:=h) m h2 true (by simp [qf])
  by_cases qh:Heads h
  ·have HAL:=Lib.hid fun (w:World) m=>xall_any (w:=w) (v:=v) (h:=h) m hF hO true (by simp [qh])
   have HEN:Hid (Linked h → (∀ i,i < h.ws.length → ¬ Theirs (obsH h) i → h.ws.getD i 0=0) → y=0):=Lib.hid fun k1 k2=>HY.out ⟨hF,hO,qh,k2,k1⟩
   have HNL:Hid (¬ Linked h → y=2):=Lib.hid fun k=>HN.out fun d=>k d.linked
   have HNR:Hid (¬ (∀ i,i < h.ws.length → ¬ Theirs (obsH h) i → h.ws.getD i 0=0) → y=2):=Lib.hid fun k=>HN.out fun d=>k d.rest
   have HLK:=Lib.hid (linkedO_iff (h:=h) hF.spans)
   have HOB:=Lib.hid fun (o:Ob) (ho:o ∈ obsH h)=>heads_ob hF hO qh ho
   have hw16:=hF.words
   have hol:=obsH_len (h:=h) hF.spans
   have HWD:=Lib.hid hm.a.words
   have hA:=hm.a
   have hlw:0 < h.ws.length:=by have:=hF.long;have:=hF.some_;omega
   simp only [obsB] at HAL
   generalize obsH h=os at *
   have hmk:=run_make_boolz h.ws.length hw16
   clear HY HN qf qh hF hO h2
   obtain ⟨gA,oA,hAe,hgA,hcA⟩:=hA.at_ hlw
   unfold hpV hpv at HFR HAL ⊢
   obtain ⟨vA,vca,vU,vcu,vV,vcv⟩:=v
   simp only at *
   subst hAe
   obtain ⟨x0,x1,x2,x3⟩:=id X0
   go_enter Tryz.func22,Tryz.ntmps22
   go_wp2_with fail
   go_at_call 95
   refine (HFR.out _ (by exact m1)).mono ?_
   rintro e w1 ⟨rfl,hb_w1⟩
   have X1:=X0.later hb_w1
   have b1:Below w.heap.size w w1:=bX
   have m2:=m1.later hb_w1
   clear x0 x1 x2 x3 X0 m1 hb_w1
   obtain ⟨x0,x1,x2,x3⟩:=id X1
   go_wp2_with fail
   go_at_call 96
   refine (HAL.out _ (by exact m2)).mono ?_
   rintro e w2 ⟨Ao,co,rfl,hown,hb_w2⟩
   have X2:=X1.later hb_w2
   have b2:Below w.heap.size w w2:=b1.trans (hb_w2.mono b1.size)
   have hXR:=XRow.of hown rfl
   clear x0 x1 x2 x3 X1 m2 hb_w2 b1 hown
   obtain ⟨x0,x1,x2,x3⟩:=id X2
   have hxl:=X2.lt
   have hs2:=b2.size
   have b3:Below w2.heap.size w2 (w2.alloc (.cells (boolz h.ws.length).toArray 4)):=Below.alloc (Below.refl _ _) (Nat.le_refl _) _
   have T0:=BRow.new w2 h.ws.length
   go_wp2_with fail
   go_loopw [32] (fun jv wr=>∃ j:Nat,jv=.int .i64 (j:Nat)∧j ≤ os.length∧Hid (∀ i (hi:i < os.length),i < j → LkO h.ws os os[i] os[i].n.toNat)∧BRow wr w2.heap.size h.ws.length (thB (os.take j))∧Below w2.heap.size w2 wr) (fun jv _=>os.length - (intOf jv).toNat)
   case atStart=>exact ⟨0,rfl,Nat.zero_le _,Lib.hid (by intro i hi h;omega),T0,b3⟩
   case round=>
    clear T0 b3 x0 x1 x2 x3
    obtain ⟨j,rfl,hj,HD,T,hb⟩:=hrel
    have hsr:=hb.size
    have htl:=T.lt
    have X:=X2.below hb hxl
    have q0:=X.c0
    by_cases hlt:j < os.length
    ·obtain ⟨g,off,hoe,hg,hc⟩:=(hXR.below hb).at_ (by omega)
     have xp:=hc j hlt
     have hmem:os[j] ∈ os:=List.getElem_mem hlt
     have hTK:Hid (os.take (j + 1)=os.take j ++ [os[j]]):=Lib.hid (List.take_succ_eq_append_getElem hlt)
     have HL2:Hid (LkO h.ws os os[j] os[j].n.toNat → ∀ i (hi:i < os.length),i < j + 1 → LkO h.ws os os[i] os[i].n.toNat):=Lib.hid fun e i hi hij=>by
      by_cases e2:i=j
      ·subst e2;exact e
      ·exact HD.out i hi (by omega)
     have HL3:Hid (¬ LkO h.ws os os[j] os[j].n.toNat → y=2):=Lib.hid fun e=>HNL.out fun k=>e (HLK.out.1 k _ hmem)
     obtain ⟨oa1,oa2,on1,on2,om⟩:=HOB.out _ hmem
     obtain ⟨o,ho⟩:∃ o,Hid (os[j]=o):=⟨_,Lib.hid rfl⟩
     rw [ho.out] at xp oa1 oa2 on1 on2 om hTK HL2 HL3
     obtain ⟨p0,p1,p2,p3,p4,p5⟩:=id xp
     have j1:(j:Int) < (os.length:Int):=by omega
     have j2:(0:Int) ≤ (j:Int):=by omega
     have Z0:=Six.new wr (.int .i64 o.i) (.int .i64 o.k) (.int .u64 o.a) (.int .i64 o.n) (.int .u64 o.m) (.bool o.c) 156
     have aS:Below wr.heap.size wr (wr.alloc (.cells #[.int .i64 o.i,.int .i64 o.k,.int .u64 o.a,.int .i64 o.n,.int .u64 o.m,.bool o.c] 156)):=Below.alloc (Below.refl _ _) (Nat.le_refl _) _
     have T1:=T.later aS
     have b4:=hb.trans (aS.mono hsr)
     subst hoe
     clear hc xp hmem aS HD ho T hb
     go_wp2_with fail
     clear p0 p1 p2 p3 p4 p5 q0
     rw [← thK_zero (os.take j) o] at T1
     obtain ⟨n,hn⟩:∃ n:Nat,o.n=(n:Int):=⟨o.n.toNat,by omega⟩
     have hnt:o.n.toNat=n:=by omega
     have hn48:n ≤ 48:=by omega
     have HNN:=Lib.hid hn
     have HNT:=Lib.hid hnt
     have hin:o.a + n < h.ws.length:=by omega
     clear hn hnt on1 on2 oa2
     generalize wr=wA at *
     have hbA:=htl
     go_loopw [8] (fun kv wr=>∃ k:Nat,kv=.int .i64 (k:Nat)∧k ≤ n + 1∧BRow wr w2.heap.size h.ws.length (thK (os.take j) o k)∧Six wr wA.heap.size (.int .i64 o.i) (.int .i64 o.k) (.int .u64 o.a) (.int .i64 o.n) (.int .u64 o.m) (.bool o.c)∧Below w2.heap.size w2 wr) (fun kv _=>n + 1 - (intOf kv).toNat)
     case atStart=>exact ⟨0,rfl,Nat.zero_le _,T1,Z0,b4⟩
     case round=>
      clear T1 Z0 b4
      obtain ⟨k,rfl,hk,T,Z,hb⟩:=hrel
      have hsr2:=hb.size
      have hzl:=Z.lt
      obtain ⟨z0,z1,z2,z3,z4,z5,zf⟩:=id Z
      by_cases hkn:k ≤ n
      ·have f1:decide ((k:Int) ≤ o.n)=true:=decide_eq_true (by have:=HNN.out;omega)
       have hk48:k ≤ 48:=by omega
       have HKN:=Lib.hid hkn
       obtain ⟨p,hp⟩:∃ p,o.a + k=p:=⟨_,rfl⟩
       have hpl:p < h.ws.length:=by omega
       have w1':IntKind.u64.wrap ((k:Nat):Int)=((k:Nat):Int):=by rw [IntKind.wrap_u64];omega
       have w2':IntKind.u64.wrap (((o.a:Nat):Int) + ((k:Nat):Int))=((p:Nat):Int):=by rw [IntKind.wrap_u64];omega
       have p1:((p:Nat):Int) < ((h.ws.length:Nat):Int):=by omega
       have p2:(0:Int) ≤ ((p:Nat):Int):=by omega
       obtain ⟨t0,t1⟩:=T.at_ p hpl
       have T2:=T.set hpl true
       have e2:(fun i=>if i=p then true else thK (os.take j) o k i)=thK (os.take j) o (k + 1):=by rw [thK_succ,hp]
       rw [e2] at T2
       have Z2:=Z.far (p:=⟨w2.heap.size,p,none⟩) (by show w2.heap.size ≠ wA.heap.size;omega) (.bool true)
       have b5:Below w2.heap.size w2 (wr.setCell ⟨w2.heap.size,p,none⟩ (.bool true)):=hb.setCell (p:=⟨w2.heap.size,p,none⟩) (Nat.le_refl _) _
       clear e2 hp T Z hb zf hkn
       go_wp2
       go_roundw
       case rel=>exact ⟨k + 1,by go_num,by have:=HKN.out;omega,T2,Z2,b5⟩
       case measure=>have:=HKN.out;simp [intOf];omega
      ·have HKE:Hid (k=n + 1):=Lib.hid (by omega)
       have f1:decide ((k:Int) ≤ o.n)=false:=decide_eq_false (by have:=HNN.out;omega)
       have T2:BRow wr w2.heap.size h.ws.length (thB (os.take (j + 1))):=by rw [hTK.out,← thK_all,HNT.out,← HKE.out];exact T
       clear hkn
       clear T zf
       go_wp2_with fail
       clear z0 z1 z2 z3 z4 z5
       generalize wr=wB at *
       go_loopw [9] (fun fv wr=>∃ f:Nat,fv=.int .i64 (f:Nat)∧f ≤ n∧Hid (LkO h.ws os o f)∧BRow wr w2.heap.size h.ws.length (thB (os.take (j + 1)))∧Six wr wA.heap.size (.int .i64 o.i) (.int .i64 o.k) (.int .u64 o.a) (.int .i64 o.n) (.int .u64 o.m) (.bool o.c)∧Below w2.heap.size w2 wr) (fun fv _=>n - (intOf fv).toNat)
       case atStart=>exact ⟨0,rfl,Nat.zero_le _,Lib.hid (by intro _ f hf;omega),T2,Z,hb⟩
       case round=>
        clear T2 Z hb hsr2 hzl
        obtain ⟨f,rfl,hf,HL,T,Z,hb⟩:=hrel
        have hsr2:=hb.size
        have hzl:=Z.lt
        obtain ⟨z0,z1,z2,z3,z4,z5,zf⟩:=id Z
        have X:=X2.below hb hxl
        have q0:=X.c0
        by_cases hfn:f < n
        ·have f2:decide ((f:Int) < o.n)=true:=decide_eq_true (by have:=HNN.out;omega)
         have hf48:f ≤ 48:=by omega
         have HFN:=Lib.hid hfn
         obtain ⟨p,hp⟩:∃ p,o.a + 1 + f=p:=⟨_,rfl⟩
         have hpl:p < h.ws.length:=by omega
         have w1':IntKind.u64.wrap ((f:Nat):Int)=((f:Nat):Int):=by rw [IntKind.wrap_u64];omega
         have w3':IntKind.u64.wrap (((o.a:Nat):Int) + 1)=((o.a:Nat):Int) + 1:=by rw [IntKind.wrap_u64];omega
         have w2':IntKind.u64.wrap (((o.a:Nat):Int) + 1 + ((f:Nat):Int))=((p:Nat):Int):=by rw [IntKind.wrap_u64];omega
         have p1:((p:Nat):Int) < ((h.ws.length:Nat):Int):=by omega
         have p2:(0:Int) ≤ ((p:Nat):Int):=by omega
         have r0:=((b2.trans (hb.mono hs2)).cell (p:=⟨gA,oA + p,none⟩) hgA).trans (hcA p hpl)
         obtain ⟨x,hx⟩:∃ x,Hid (h.ws.getD p 0=x):=⟨_,rfl⟩
         rw [hx.out] at r0
         have HST:Hid ((o.c=true → o.m.testBit f=true → FdO os x) → LkO h.ws os o (f + 1)):=Lib.hid fun e=>HL.out.step fun hc hbt=>by rw [hp,hx.out];exact e hc hbt
         have HBD:Hid (o.c=true → o.m.testBit f=true → ¬ FdO os x → y=2):=Lib.hid fun hc hbt hno=>HL3.out fun k=>hno (by have:=k hc f (by have:=HNT.out;omega) hbt;rw [hp,hx.out] at this;exact this)
         have HIS:=Lib.hid fun (w:World)=>xis_any (n:=o.n) (m:=o.m) (w:=w) (f:Nat) (by omega) (by omega)
         simp only [Int.toNat_natCast] at HIS
         clear hp hx HL hfn
         obtain hoc | hoc:o.c=false ∨ o.c=true:=by cases o.c <;> simp
         ·have HL2':=Lib.hid (HST.out (fun e=>(by rw [hoc] at e;cases e)))
          rw [hoc] at z5
          clear HST HBD hoc
          go_wp2
          go_roundw
          case rel=>first | exact ⟨f + 1,by go_num,by have:=HFN.out;omega,HL2',T,Z,hb⟩ | exact ⟨_,_,.int .i64 ((f + 1:Nat):Int),⟨f + 1,rfl,by have:=HFN.out;omega,HL2',T,Z,hb⟩,rfl,rfl,by first | go_num | simp⟩
          case measure=>have:=HFN.out;simp [intOf];omega
         ·rw [hoc] at z5
          obtain hbt | hbt:o.m.testBit f=false ∨ o.m.testBit f=true:=by cases o.m.testBit f <;> simp
          ·have HL2':=Lib.hid (HST.out (fun _ e=>(by rw [hbt] at e;cases e)))
           rw [hbt] at HIS
           clear HST HBD hoc hbt
           go_wp2_with fail
           go_at_call 97
           refine (HIS.out _).mono ?_
           rintro e w5 ⟨rfl,hb_w5⟩
           have T5:=T.later hb_w5
           have Z5:=Z.later hb_w5
           have b5:=hb.trans (hb_w5.mono hsr2)
           go_wp2
           go_roundw
           case rel=>first | exact ⟨f + 1,by go_num,by have:=HFN.out;omega,HL2',T5,Z5,b5⟩ | exact ⟨_,_,.int .i64 ((f + 1:Nat):Int),⟨f + 1,rfl,by have:=HFN.out;omega,HL2',T5,Z5,b5⟩,rfl,rfl,by first | go_num | simp⟩
           case measure=>have:=HFN.out;simp [intOf];omega
          ·rw [hbt] at HIS
           by_cases hx0:x=0
           ·subst hx0
            have HL2':=Lib.hid (HST.out (fun _ _=>.inl rfl))
            clear HST HBD hoc hbt
            go_wp2_with fail
            go_at_call 97
            refine (HIS.out _).mono ?_
            rintro e w5 ⟨rfl,hb_w5⟩
            have T5:=T.later hb_w5
            have Z5:=Z.later hb_w5
            have b5:=hb.trans (hb_w5.mono hsr2)
            go_wp2
            go_roundw
            case rel=>first | exact ⟨f + 1,by go_num,by have:=HFN.out;omega,HL2',T5,Z5,b5⟩ | exact ⟨_,_,.int .i64 ((f + 1:Nat):Int),⟨f + 1,rfl,by have:=HFN.out;omega,HL2',T5,Z5,b5⟩,rfl,rfl,by first | go_num | simp⟩
            case measure=>have:=HFN.out;simp [intOf];omega
           ·have f3:(((x:Nat):Int) == 0)=false:=by simpa using hx0
            obtain ⟨r,bb,hE⟩:=FdE.ex os x
            have hfd:=fdE_fdO hE hx0
            have HFI:=Lib.hid fun (w:World) hr=>xfindO_any (w:=w) (A:=some ⟨g,off,none⟩) (os:=os) co hr (by omega) x r bb hE
            unfold obX at HFI
            have hrow:=fun (w5:World) (hb5:Below w2.heap.size w2 w5)=>(hXR.below hb5).more hb5.size
            have HRW:=Lib.hid hrow
            have HST2:Hid (bb=true → LkO h.ws os o (f + 1)):=Lib.hid fun e=>HST.out fun _ _=>hfd.1 e
            have HBD2:Hid (bb=false → y=2):=Lib.hid fun e=>HBD.out hoc hbt fun k=>by have:=hfd.2 k;rw [e] at this;cases this
            clear HST HBD hoc hbt hx0 hE hfd hrow
            go_wp2_with fail
            go_at_call 97
            refine (HIS.out _).mono ?_
            rintro e w5 ⟨rfl,hb_w5⟩
            have T5:=T.later hb_w5
            have Z5:=Z.later hb_w5
            have b5:=hb.trans (hb_w5.mono hsr2)
            clear z0 z1 z2 z3 z4 z5 zf q0 T Z X r0
            have hsr5:=b5.size
            go_wp2_with fail
            go_at_call 98
            refine (HFI.out _ (HRW.out _ b5)).mono ?_
            rintro e w6 ⟨rfl,hb_w6⟩
            have a6:Below w6.heap.size w6 (w6.alloc (.cells #[.int .i64 r.i,.int .i64 r.k,.int .u64 r.a,.int .i64 r.n,.int .u64 r.m,.bool r.c] 156)):=Below.alloc (Below.refl _ _) (Nat.le_refl _) _
            have T6:=(T5.later hb_w6).later a6
            have Z6:=(Z5.later hb_w6).later a6
            have b6:=b5.trans (hb_w6.mono hsr5)
            have b7:=b6.trans (a6.mono b6.size)
            cases bb
            ·obtain rfl:=HBD2.out rfl
             go_wp2
             go_ret
             exact ⟨rfl,b2.trans (b7.mono hs2)⟩
            ·have HL2':=Lib.hid (HST2.out rfl)
             go_wp2
             go_roundw
             case rel=>first | exact ⟨f + 1,by go_num,by have:=HFN.out;omega,HL2',T6,Z6,b7⟩ | exact ⟨_,_,.int .i64 ((f + 1:Nat):Int),⟨f + 1,rfl,by have:=HFN.out;omega,HL2',T6,Z6,b7⟩,rfl,rfl,by first | go_num | simp⟩
             case measure=>have:=HFN.out;simp [intOf];omega
        ·obtain rfl:f=n:=by omega
         have f2:decide ((f:Int) < o.n)=false:=decide_eq_false (by have:=HNN.out;omega)
         have HL4:=Lib.hid (HL2.out (by rw [HNT.out];exact HL.out))
         go_wp2
         go_roundw
         case rel=>exact ⟨j + 1,by go_num,by omega,HL4,T,hb⟩
         case measure=>simp [intOf];omega
    ·obtain rfl:j=os.length:=by omega
     rw [List.take_length] at T
     have HLD:Hid (Linked h):=Lib.hid (HLK.out.2 fun o ho=>by
      obtain ⟨i,hi,rfl⟩:=List.getElem_of_mem ho
      exact HD.out i hi hi)
     have HTH:=Lib.hid fun i=>thB_iff os i
     clear HD HNL HLK HOB
     go_wp2_with fail
     clear q0
     generalize wr=wA at *
     go_loopw [95] (fun iv wr=>∃ i:Nat,iv=.int .i64 (i:Nat)∧i ≤ h.ws.length∧Hid (∀ q,q < i → ¬ Theirs os q → h.ws.getD q 0=0)∧BRow wr w2.heap.size h.ws.length (thB os)∧Below w2.heap.size w2 wr) (fun iv _=>h.ws.length - (intOf iv).toNat)
     case atStart=>exact ⟨0,rfl,Nat.zero_le _,Lib.hid (by intro q hq;omega),T,hb⟩
     case round=>
      clear T hb hsr htl X
      obtain ⟨i,rfl,hi,HD,T,hb⟩:=hrel
      have hsr:=hb.size
      have htl:=T.lt
      by_cases hil:i < h.ws.length
      ·have j1:(i:Int) < (h.ws.length:Int):=by omega
       have j2:(0:Int) ≤ (i:Int):=by omega
       have r0:=((b2.trans (hb.mono hs2)).cell (p:=⟨gA,oA + i,none⟩) hgA).trans (hcA i hil)
       obtain ⟨x,hx⟩:∃ x,Hid (h.ws.getD i 0=x):=⟨_,rfl⟩
       rw [hx.out] at r0
       obtain ⟨t0,t1⟩:=T.at_ i hil
       have HST:Hid ((¬ Theirs os i → x=0) → ∀ q,q < i + 1 → ¬ Theirs os q → h.ws.getD q 0=0):=Lib.hid fun e q hq hn=>by
        by_cases e2:q=i
        ·subst e2;rw [hx.out];exact e hn
        ·exact HD.out q (by omega) hn
       have HBD:Hid (¬ Theirs os i → x ≠ 0 → y=2):=Lib.hid fun hn h0=>HNR.out fun k=>h0 (by rw [← hx.out];exact k i hil hn)
       have HTI:=HTH.out i
       generalize thB os i=t at *
       cases t
       ·have hno:¬ Theirs os i:=fun k=>(by have:=HTI.2 k;cases this)
        by_cases hx0:x=0
        ·subst hx0
         have HD2:=Lib.hid (HST.out fun _=>rfl)
         clear HST HBD HTI hno HD
         go_wp2
         go_roundw
         case rel=>exact ⟨i + 1,by go_num,by omega,HD2,T,hb⟩
         case measure=>simp [intOf];omega
        ·have f3:(((x:Nat):Int) != 0)=true:=by simpa using hx0
         obtain rfl:=HBD.out hno hx0
         clear HST HBD HTI hno HD hx0
         go_wp2
         go_ret
         exact ⟨rfl,b2.trans (hb.mono hs2)⟩
       ·have HD2:=Lib.hid (HST.out fun k=>absurd (HTI.1 rfl) k)
        clear HST HBD HTI HD
        go_wp2
        go_roundw
        case rel=>exact ⟨i + 1,by go_num,by omega,HD2,T,hb⟩
        case measure=>simp [intOf];omega
      ·obtain rfl:i=h.ws.length:=by omega
       obtain rfl:=HEN.out HLD.out HD.out
       go_wp2
       go_ret
       exact ⟨rfl,b2.trans (hb.mono hs2)⟩
  ·have HAL:=Lib.hid fun (w:World) m=>xall_any (w:=w) (v:=v) (h:=h) m hF hO false (by simp [qh])
   obtain rfl:=HN.out fun d=>qh d.heads
   clear HY HN qf qh hF hO h2 hm
   unfold hpV hpv at HFR HAL ⊢
   obtain ⟨vA,vca,vU,vcu,vV,vcv⟩:=v
   simp only at *
   obtain ⟨x0,x1,x2,x3⟩:=id X0
   go_enter Tryz.func22,Tryz.ntmps22
   go_wp2_with fail
   go_at_call 95
   refine (HFR.out _ (by exact m1)).mono ?_
   rintro e w1 ⟨rfl,hb_w1⟩
   have X1:=X0.later hb_w1
   have b1:Below w.heap.size w w1:=bX
   have m2:=m1.later hb_w1
   clear x0 x1 x2 x3 X0 m1 hb_w1
   obtain ⟨x0,x1,x2,x3⟩:=id X1
   go_wp2_with fail
   go_at_call 96
   refine (HAL.out _ (by exact m2)).mono ?_
   rintro e w2 ⟨Ao,co,rfl,_,hb_w2⟩
   go_wp2
   go_ret
   exact ⟨rfl,b1.trans (hb_w2.mono b1.size)⟩
 ·have HFR:=Lib.hid fun (w:World) m=>xframed_any (w:=w) (v:=v) (h:=h) m h2 false (by simp [qf])
  obtain rfl:=HN.out fun d=>qf ((frmD_iff h).2 ⟨d.framed,d.owned⟩)
  clear HY HN qf h2 hm
  unfold hpV hpv at HFR ⊢
  obtain ⟨vA,vca,vU,vcu,vV,vcv⟩:=v
  simp only at *
  obtain ⟨x0,x1,x2,x3⟩:=id X0
  go_enter Tryz.func22,Tryz.ntmps22
  go_wp2_with fail
  go_at_call 95
  refine (HFR.out _ (by exact m1)).mono ?_
  rintro e w1 ⟨rfl,hb_w1⟩
  go_wp2
  go_ret
  exact ⟨rfl,bX⟩
theorem xusedS_any {w:World} {v:Hv} {h:Hp} (hU:Row w w.heap.size v.U h.us) (i:Int) (h0:0 ≤ i) (h1:i < 64 * h.us.length) (hl:h.us.length ≤ 64) :
  Calls Tryz.prog 137 #[hpV v h,.int .i64 i] w fun e w'=>e=.returned (.bool (tb h.us i.toNat))∧Below w.heap.size w w':=by
 have HI:=Lib.hid fun (w:World) hr=>is_any (w:=w) (A:=v.U) (ws:=h.us) i h.n v.cu hr h0 h1 hl
 have X0:=B4.new w (.slice v.A h.ws.length v.ca) (.int .i64 h.n) (.slice v.U h.us.length v.cu) (.slice v.V h.l.length v.cv) 31
 unfold hpV hpv
 obtain ⟨x0,x1,x2,x3,fx0,fx1,fx2,fx3⟩:=id X0
 clear h0 h1 hl
 go_enter Tryz.func137,Tryz.ntmps137
 go_wp2_with fail
 go_at_call 107
 refine (HI.out _ (hU.later bX)).mono ?_
 rintro e w1 ⟨rfl,hb_w1⟩
 obtain ⟨hc_w1,hf_w1⟩:=bcell hb_w1;have hz_w1_w_0:w.heap.size < w1.heap.size:=lY hb_w1.size;have hs_w1:=hb_w1.size;(try simp only [zZ] at hs_w1)
 go_wp2
 go_ret
 exact ⟨rfl,bX⟩
section
variable {w:World} {v:Hv} {O:Option Addr} {s:Sc} (co:Nat)
set_option maxHeartbeats 4000000 in
theorem xcheckS_1 (m:SM w v O s) (h2:s.h.l.length ≤ 17592186044416) (hk:¬ OkH s.h) :
  Calls Tryz.prog 66 #[scV v O co s] w fun e w'=>e=.returned (.int .i64 2)∧Below w.heap.size w w':=by
 have X0:=E8.new w (.slice v.A s.h.ws.length v.ca) (.int .i64 s.h.n) (.slice v.U s.h.us.length v.cu) (.slice v.V s.h.l.length v.cv) (.int .i64 s.n) (.slice O s.os.length co) (.int .u64 (s.fa:Nat)) (.int .u64 (s.go:Nat)) 79
 have HC:=Lib.hid fun (w:World) m=>xcheckH_any (w:=w) (v:=v) (h:=s.h) m h2 2 (.inr ⟨hk,rfl⟩)
 clear hk h2
 unfold scV
 unfold hpV hpv at HC
 obtain ⟨x0,x1,x2,x3,x4,x5,x6,x7,xf⟩:=id X0
 go_enter Tryz.func66,Tryz.ntmps66
 go_wp2_with fail
 go_at_call 22
 refine (HC.out _ (m.h.later bX)).mono ?_
 rintro e w1 ⟨rfl,hb_w1⟩
 obtain ⟨hc_w1,hf_w1⟩:=bcell hb_w1;have hz_w1_w_0:w.heap.size < w1.heap.size:=lY hb_w1.size;have hs_w1:=hb_w1.size;(try simp only [zZ] at hs_w1)
 go_wp2
 go_ret
 exact ⟨rfl,bX⟩
set_option maxHeartbeats 4000000 in
theorem xcheckS_2 (m:SM w v O s) (h2:s.h.l.length ≤ 17592186044416) (hk:OkH s.h) (ho:¬ Right s.n s.os) :
  Calls Tryz.prog 66 #[scV v O co s] w fun e w'=>e=.returned (.int .i64 2)∧Below w.heap.size w w':=by
 have X0:=E8.new w (.slice v.A s.h.ws.length v.ca) (.int .i64 s.h.n) (.slice v.U s.h.us.length v.cu) (.slice v.V s.h.l.length v.cv) (.int .i64 s.n) (.slice O s.os.length co) (.int .u64 (s.fa:Nat)) (.int .u64 (s.go:Nat)) 79
 have HC:=Lib.hid fun (w:World) m=>xcheckH_any (w:=w) (v:=v) (h:=s.h) m h2 0 (.inl ⟨hk,rfl⟩)
 have HR:=Lib.hid fun (w:World) hr=>rcheck_bad (w:=w) (A:=O) (ws:=s.os) (n:=s.n) co hr ho
 clear hk ho h2
 unfold scV
 unfold hpV hpv at HC
 obtain ⟨x0,x1,x2,x3,x4,x5,x6,x7,xf⟩:=id X0
 go_enter Tryz.func66,Tryz.ntmps66
 go_wp2_with fail
 go_at_call 22
 refine (HC.out _ (m.h.later bX)).mono ?_
 rintro e w1 ⟨rfl,hb_w1⟩
 obtain ⟨hc_w1,hf_w1⟩:=bcell hb_w1;have hz_w1_w_0:w.heap.size < w1.heap.size:=lY hb_w1.size;have hs_w1:=hb_w1.size;(try simp only [zZ] at hs_w1)
 clear hc_w1 hf_w1
 have X1:=(X0.later (by exact hb_w1))
 clear x0 x1 x2 x3 x4 x5 x6 x7 xf
 obtain ⟨x0,x1,x2,x3,x4,x5,x6,x7,xf⟩:=id X1
 go_wp2_with fail
 go_at_call 145
 refine (HR.out _ (m.o.later bX)).mono ?_
 rintro e w2 ⟨rfl,hb_w2⟩
 obtain ⟨hc_w2,hf_w2⟩:=bcell hb_w2;have hs_w2:=hb_w2.size;(try simp only [zZ] at hs_w2)
 go_wp2
 go_ret
 exact ⟨rfl,bX⟩
set_option maxHeartbeats 4000000 in
theorem xcheckS_3 (m:SM w v O s) (h2:s.h.l.length ≤ 17592186044416) (hk:OkH s.h) (ho:Right s.n s.os) (hn:s.n ≠ s.h.n) :
  Calls Tryz.prog 66 #[scV v O co s] w fun e w'=>e=.returned (.int .i64 2)∧Below w.heap.size w w':=by
 have X0:=E8.new w (.slice v.A s.h.ws.length v.ca) (.int .i64 s.h.n) (.slice v.U s.h.us.length v.cu) (.slice v.V s.h.l.length v.cv) (.int .i64 s.n) (.slice O s.os.length co) (.int .u64 (s.fa:Nat)) (.int .u64 (s.go:Nat)) 79
 have HC:=Lib.hid fun (w:World) m=>xcheckH_any (w:=w) (v:=v) (h:=s.h) m h2 0 (.inl ⟨hk,rfl⟩)
 have HR:=Lib.hid fun (w:World) hr=>rcheck_ok (w:=w) (A:=O) (ws:=s.os) (n:=s.n) co hr ho
 have f1:(s.n != s.h.n)=true:=by simpa using hn
 clear hk ho h2 hn
 unfold scV
 unfold hpV hpv at HC
 obtain ⟨x0,x1,x2,x3,x4,x5,x6,x7,xf⟩:=id X0
 go_enter Tryz.func66,Tryz.ntmps66
 go_wp2_with fail
 go_at_call 22
 refine (HC.out _ (m.h.later bX)).mono ?_
 rintro e w1 ⟨rfl,hb_w1⟩
 obtain ⟨hc_w1,hf_w1⟩:=bcell hb_w1;have hz_w1_w_0:w.heap.size < w1.heap.size:=lY hb_w1.size;have hs_w1:=hb_w1.size;(try simp only [zZ] at hs_w1)
 clear hc_w1 hf_w1
 have X1:=(X0.later (by exact hb_w1))
 clear x0 x1 x2 x3 x4 x5 x6 x7 xf
 obtain ⟨x0,x1,x2,x3,x4,x5,x6,x7,xf⟩:=id X1
 go_wp2_with fail
 go_at_call 145
 refine (HR.out _ (m.o.later bX)).mono ?_
 rintro e w2 ⟨rfl,hb_w2⟩
 obtain ⟨hc_w2,hf_w2⟩:=bcell hb_w2;have hs_w2:=hb_w2.size;(try simp only [zZ] at hs_w2)
 clear hc_w2 hf_w2
 have X2:=X1.later (by exact hb_w2)
 clear x0 x1 x2 x3 x4 x5 x6 x7 xf
 obtain ⟨x0,x1,x2,x3,x4,x5,x6,x7,xf⟩:=id X2
 go_wp2
 go_ret
 exact ⟨rfl,bX⟩
set_option maxHeartbeats 4000000 in
theorem xcheckS_4 (m:SM w v O s) (h2:s.h.l.length ≤ 17592186044416) (hk:OkH s.h) (ho:Right s.n s.os) (hn:s.n=s.h.n) (y:Int) (hy:(OkS s∧y=0) ∨ (¬ OkS s∧y=2)) :
  Calls Tryz.prog 66 #[scV v O co s] w fun e w'=>e=.returned (.int .i64 y)∧Below w.heap.size w w':=by
 have hus:Right s.n s.h.us:=by rw [hn];exact hk.framed.pages
 have HY0:Hid ((∀ j,j < s.n.toNat → tb s.os j=true → tb s.h.us j=false) → y=0):=Lib.hid fun h=>by
  rcases hy with ⟨_,e⟩ | ⟨e,_⟩
  ·exact e
  ·exact absurd (okS_of hk ho hn h) e
 have HY2:Hid ((∃ j,j < s.n.toNat∧tb s.os j=true∧tb s.h.us j=true) → y=2):=Lib.hid fun ⟨j,h1,h2,h3⟩=>by
  rcases hy with ⟨e,_⟩ | ⟨_,e⟩
  ·rw [e.apart h1 h2] at h3;cases h3
  ·exact e
 have hlo:=ho.long
 have hlu:=hus.long
 have hol:=right_len ho
 have hul:=right_len hus
 have hn0:=ho.1
 have hn4:=ho.2.1
 obtain ⟨N,hN⟩:∃ N:Nat,s.n.toNat=N:=⟨_,rfl⟩
 rw [hN] at HY0 HY2
 have hN2:s.n=(N:Int):=by omega
 have X0:=E8.new w (.slice v.A s.h.ws.length v.ca) (.int .i64 s.h.n) (.slice v.U s.h.us.length v.cu) (.slice v.V s.h.l.length v.cv) (.int .i64 s.n) (.slice O s.os.length co) (.int .u64 (s.fa:Nat)) (.int .u64 (s.go:Nat)) 79
 have HC:=Lib.hid fun (w:World) m=>xcheckH_any (w:=w) (v:=v) (h:=s.h) m h2 0 (.inl ⟨hk,rfl⟩)
 have HR:=Lib.hid fun (w:World) hr=>rcheck_ok (w:=w) (A:=O) (ws:=s.os) (n:=s.n) co hr ho
 have f1:(s.n != s.h.n)=false:=by simpa using hn
 have HN:=Lib.hid hn
 have HN2:=Lib.hid hN2
 clear hk ho h2 hn hy hus hN hN2
 unfold scV
 unfold hpV hpv at HC
 obtain ⟨x0,x1,x2,x3,x4,x5,x6,x7,xf⟩:=id X0
 go_enter Tryz.func66,Tryz.ntmps66
 go_wp2_with fail
 go_at_call 22
 refine (HC.out _ (m.h.later bX)).mono ?_
 rintro e w1 ⟨rfl,hb_w1⟩
 obtain ⟨hc_w1,hf_w1⟩:=bcell hb_w1;have hz_w1_w_0:w.heap.size < w1.heap.size:=lY hb_w1.size;have hs_w1:=hb_w1.size;(try simp only [zZ] at hs_w1)
 clear hc_w1 hf_w1
 have X1:=(X0.later (by exact hb_w1))
 clear x0 x1 x2 x3 x4 x5 x6 x7 xf
 obtain ⟨x0,x1,x2,x3,x4,x5,x6,x7,xf⟩:=id X1
 go_wp2_with fail
 go_at_call 145
 refine (HR.out _ (m.o.later bX)).mono ?_
 rintro e w2 ⟨rfl,hb_w2⟩
 obtain ⟨hc_w2,hf_w2⟩:=bcell hb_w2;have hs_w2:=hb_w2.size;(try simp only [zZ] at hs_w2)
 clear hc_w2 hf_w2
 have X2:=X1.later (by exact hb_w2)
 clear x0 x1 x2 x3 x4 x5 x6 x7 xf
 obtain ⟨x0,x1,x2,x3,x4,x5,x6,x7,xf⟩:=id X2
 go_wp2_with fail
 have b0:Below w.heap.size w w2:=bX
 have hN4:N ≤ 4096:=by have:=HN2.out;omega
 clear x0 x1 x2 x3 x4 x5 x6 x7 xf
 go_loopw [3] (fun ii wr=>∃ k:Nat,ii=.int .i64 (k:Nat)∧k ≤ N∧Hid (∀ j,j < k → tb s.os j=true → tb s.h.us j=false)∧E8 wr w.heap.size (.slice v.A s.h.ws.length v.ca) (.int .i64 s.h.n) (.slice v.U s.h.us.length v.cu) (.slice v.V s.h.l.length v.cv) (.int .i64 s.n) (.slice O s.os.length co) (.int .u64 (s.fa:Nat)) (.int .u64 (s.go:Nat))∧Below w.heap.size w wr) (fun ii _=>N - (intOf ii).toNat)
 case atStart=>exact ⟨0,rfl,Nat.zero_le _,Lib.hid fun j hj=>absurd hj (Nat.not_lt_zero _),X2,b0⟩
 case round=>
  clear X2 b0
  obtain ⟨k,rfl,hk,HJ,X,hb⟩:=hrel
  by_cases hlt:k < N
  ·have f2:decide ((k:Int) < s.n)=true:=decide_eq_true (by have:=HN2.out;omega)
   have HI:=Lib.hid fun (w:World) hr=>is_any (w:=w) (A:=O) (ws:=s.os) (k:Nat) s.n co hr (by omega) (by have:=HN2.out;omega) hol
   have HU:=Lib.hid fun (w:World) hr=>xusedS_any (w:=w) (v:=v) (h:=s.h) hr (k:Nat) (by omega) (by have:=HN2.out;omega) hul
   simp only [Int.toNat_natCast] at HI HU
   unfold hpV hpv at HU
   have zx:=X.lt
   obtain ⟨x0,x1,x2,x3,x4,x5,x6,x7,xf⟩:=id X
   obtain ⟨bo,hbo⟩:∃ x,Hid (tb s.os k=x):=⟨_,Lib.hid rfl⟩
   obtain ⟨bu,hbu⟩:∃ x,Hid (tb s.h.us k=x):=⟨_,Lib.hid rfl⟩
   rw [hbo.out] at HI
   rw [hbu.out] at HU
   go_wp2_with fail
   go_at_call 107
   refine (HI.out _ (m.o.later (by exact hb))).mono ?_
   rintro e u1 ⟨rfl,hb_u1⟩
   have b1:=hb.trans (hb_u1.mono hb.size)
   have X1:=X.later hb_u1
   clear x0 x1 x2 x3 x4 x5 x6 x7 xf
   obtain ⟨x0,x1,x2,x3,x4,x5,x6,x7,xf⟩:=id X1
   cases bo
   ·go_wp2
    go_roundw
    case rel=>exact ⟨k + 1,by go_num,by omega,Lib.hid fun j hj h=>by
     by_cases e:j=k
     ·subst e;rw [hbo.out] at h;cases h
     ·exact HJ.out j (by omega) h,X1,b1⟩
    case measure=>simp [intOf];omega
   ·go_wp2_with fail
    go_at_call 137
    refine (HU.out _ (m.h.u.later (by exact b1))).mono ?_
    rintro e u2 ⟨rfl,hb_u2⟩
    have b2:=b1.trans (hb_u2.mono b1.size)
    have X2:=X1.later hb_u2
    clear x0 x1 x2 x3 x4 x5 x6 x7 xf
    cases bu
    ·go_wp2
     go_roundw
     case rel=>exact ⟨k + 1,by go_num,by omega,Lib.hid fun j hj h=>by
      by_cases e:j=k
      ·subst e;exact hbu.out
      ·exact HJ.out j (by omega) h,X2,b2⟩
     case measure=>simp [intOf];omega
    ·have hy:y=2:=HY2.out ⟨k,hlt,hbo.out,hbu.out⟩
     subst hy
     go_wp2
     go_ret
     exact ⟨rfl,b2⟩
  ·obtain rfl:k=N:=by omega
   have f2:decide ((k:Int) < s.n)=false:=decide_eq_false (by have:=HN2.out;omega)
   have hy:y=0:=HY0.out HJ.out
   subst hy
   obtain ⟨x0,x1,x2,x3,x4,x5,x6,x7,xf⟩:=id X
   go_wp2
   go_ret
   exact ⟨rfl,hb⟩
theorem xcheckS_any (m:SM w v O s) (h2:s.h.l.length ≤ 17592186044416) (y:Int) (hy:(OkS s∧y=0) ∨ (¬ OkS s∧y=2)) :
  Calls Tryz.prog 66 #[scV v O co s] w fun e w'=>e=.returned (.int .i64 y)∧Below w.heap.size w w':=by
 by_cases h1:OkH s.h
 ·by_cases ho:Right s.n s.os
  ·by_cases hn:s.n=s.h.n
   ·exact xcheckS_4 co m h2 h1 ho hn y hy
   ·obtain rfl:y=2:=by
     rcases hy with ⟨e,_⟩ | ⟨_,e⟩
     ·exact absurd e.n hn
     ·exact e
    exact xcheckS_3 co m h2 h1 ho hn
  ·obtain rfl:y=2:=by
    rcases hy with ⟨e,_⟩ | ⟨_,e⟩
    ·exact absurd e.o ho
    ·exact e
   exact xcheckS_2 co m h2 h1 ho
 ·obtain rfl:y=2:=by
   rcases hy with ⟨e,_⟩ | ⟨_,e⟩
   ·exact absurd e.h h1
   ·exact e
  exact xcheckS_1 co m h2 h1
end
end Go.Proofs.YtafpkaifaccehaaGreatDoor
