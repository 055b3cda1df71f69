/- Parts of the proof. -/
import Derived.Test.YtkfmbhlefppkhaaGreatDoorML15
import Derived.Deep.RegionHeld3
set_option maxRecDepth 100000
set_option linter.unusedVariables false
set_option linter.unusedSimpArgs false
namespace Go.Proofs.YtkfmbhlefppkhaaGreatDoor
open Go.RowKit
theorem res_span1 {fn:Func} {p:Tmp} (h:fn.results=#[.cell p 99]) {tmps:Array Value} {w:World} {g ca cm:Nat} {d:Sd} {A M:Option Addr} (hp:tmps.getD p undef=.pointer (some ⟨g,0,none⟩))
  (h8:Sp8 w g 0 d A ca M cm):(results fn tmps).run Tryz.prog w=.ok (spv d A ca M cm) w:=by
 have hp2:tmps[p]?.getD undef=.pointer (some ⟨g,0,none⟩):=by rw [← hp];simp
 obtain ⟨c0,c1,c2,c3,c4,c5,c6,c7⟩:=h8
 simp only [Nat.zero_add] at c0 c1 c2 c3 c4 c5 c6 c7
 simp only [results,h]
 simp [go_sem,Result.andThen,c0,c1,c2,c3,c4,c5,c6,c7,asAddr,hp2,spv]
def OneS (w:World) (d:Sd) (e:Ending) (w':World):Prop:=∃ A ca M cm,e=.returned (spv d A ca M cm)∧Own w' w.heap.size A d.aw∧Own w' w.heap.size M d.mw∧Below w.heap.size w w'
section
variable {w:World} {A M:Option Addr} (ca cm:Nat)
set_option maxHeartbeats 2000000 in
theorem xone_any (d:Sd) (hA:Row w w.heap.size A d.aw) (hM:Row w w.heap.size M d.mw) (la:d.aw.length ≤ 17592186044416) (lm:d.mw.length ≤ 17592186044416) :
  Calls Tryz.prog 150 #[spv d A ca M cm] w fun e w'=>OneS w d e w':=by
 unfold OneS
 have HA:=Lib.hid fun (w:World) hr=>copy_any d.an (A:=A) ca (ws:=d.aw) (w:=w) hr la
 have HM:=Lib.hid fun (w:World) hr=>copy_any d.mn (A:=M) cm (ws:=d.mw) (w:=w) hr lm
 unfold Copied at HA HM
 obtain ⟨f,p,z,an,aw,mn,mw,s⟩:=d
 unfold spv
 simp only at *
 go_enter Tryz.func150,Tryz.ntmps150
 go_wp2_with fail
 go_at_call 122
 refine (HA.out _ (hA.later bX)).mono ?_
 rintro e w2 ⟨A2,c2,rfl,o2,hb_w2⟩
 obtain ⟨hc_w2,hf_w2⟩:=bcell hb_w2
 have hs2:=hb_w2.size
 (try simp only [zA] at hs2)
 have b2:Below w.heap.size w w2:=bX
 have X1:Sp8 w2 w.heap.size 0 ⟨f,p,z,an,aw,mn,mw,s⟩ A ca M cm:=by constructor <;> exact (hc_w2 _ _ lX).trans (by simp [go_sem])
 have Y1:Sp8 w2 (w.heap.size + 1) 0 sd0 none 0 none 0:=by constructor <;> exact (hc_w2 _ _ lX).trans (by simp [go_sem,sd0])
 have z3:w2.frozen? ⟨w.heap.size,3,none⟩=false:=(hf_w2 _ _ lX).trans (by simp [go_sem])
 have z4:w2.frozen? ⟨w.heap.size,4,none⟩=false:=(hf_w2 _ _ lX).trans (by simp [go_sem])
 have z5:w2.frozen? ⟨w.heap.size,5,none⟩=false:=(hf_w2 _ _ lX).trans (by simp [go_sem])
 have z6:w2.frozen? ⟨w.heap.size,6,none⟩=false:=(hf_w2 _ _ lX).trans (by simp [go_sem])
 have y0:∀ i,w2.frozen? ⟨w.heap.size + 1,i,none⟩=false:=fun i=>(hf_w2 _ _ lX).trans (by simp [go_sem])
 obtain ⟨x0,x1,x2,x3,x4,x5,x6,x7⟩:=id X1
 simp only [Nat.zero_add] at x0 x1 x2 x3 x4 x5 x6 x7
 have rM2:=hM.later b2
 clear hc_w2 hf_w2
 go_wp2_with fail
 generalize hWS:(w2.setCell ⟨w.heap.size,3,none⟩ (.int .i64 an)).setCell ⟨w.heap.size,4,none⟩ (.slice A2 aw.length c2)=wS at *
 have hzS:wS.heap.size=w2.heap.size:=by rw [← hWS];simp
 have X2:Sp8 wS w.heap.size 0 ⟨f,p,z,an,aw,mn,mw,s⟩ A2 c2 M cm:=by rw [← hWS];constructor <;> simp [go_sem,x0,x1,x2,x3,x4,x5,x6,x7]
 have Y2:Sp8 wS (w.heap.size + 1) 0 sd0 none 0 none 0:=by rw [← hWS];exact (Y1.far (p:=⟨w.heap.size,3,none⟩) (by simp) _).far (p:=⟨w.heap.size,4,none⟩) (by simp) _
 have oA:Own wS (w.heap.size + 2) A2 aw:=by rw [← hWS];exact ((o2.mono lX).far (p:=⟨w.heap.size,3,none⟩) (.inl (by show w.heap.size < _;omega)) _).far (p:=⟨w.heap.size,4,none⟩) (.inl (by show w.heap.size < _;omega)) _
 have bS:Below w.heap.size w wS:=by rw [← hWS];exact (b2.setCell (p:=⟨w.heap.size,3,none⟩) lX _).setCell (p:=⟨w.heap.size,4,none⟩) lX _
 have rMS:Row wS wS.heap.size M mw:=hM.later bS
 have t3:∀ i,wS.frozen? ⟨w.heap.size + 1,i,none⟩=false:=fun i=>by rw [← hWS,World.frozen?_setCell,World.frozen?_setCell];exact y0 i
 have t5:wS.frozen? ⟨w.heap.size,5,none⟩=false:=by rw [← hWS,World.frozen?_setCell,World.frozen?_setCell];exact z5
 have t6:wS.frozen? ⟨w.heap.size,6,none⟩=false:=by rw [← hWS,World.frozen?_setCell,World.frozen?_setCell];exact z6
 clear hWS X1 Y1 z3 z4 z5 z6 y0 o2 rM2 x0 x1 x2 x3 x4 x5 x6 x7 b2
 go_at_call 122
 refine (HM.out _ rMS).mono ?_
 rintro e w4 ⟨A4,c4,rfl,o4,hb_w4⟩
 have hs4:=hb_w4.size
 have b4:Below w.heap.size w w4:=bS.trans (hb_w4.mono (by omega))
 have X3:=X2.below hb_w4 (by omega)
 have Y3:=Y2.below hb_w4 (by omega)
 have oA4:=oA.later hb_w4
 have u5:w4.frozen? ⟨w.heap.size,5,none⟩=false:=((bcell hb_w4).2 _ _ (by omega)).trans t5
 have u6:w4.frozen? ⟨w.heap.size,6,none⟩=false:=((bcell hb_w4).2 _ _ (by omega)).trans t6
 have u1:∀ i,w4.frozen? ⟨w.heap.size + 1,i,none⟩=false:=fun i=>((bcell hb_w4).2 _ _ (by omega)).trans (t3 i)
 have v0:=u1 0
 have v1:=u1 1
 have v2:=u1 2
 have v3:=u1 3
 have v4:=u1 4
 have v5:=u1 5
 have v6:=u1 6
 have v7:=u1 7
 obtain ⟨x0,x1,x2,x3,x4,x5,x6,x7⟩:=id X3
 simp only [Nat.zero_add] at x0 x1 x2 x3 x4 x5 x6 x7
 obtain ⟨m0,m1,m2,m3,m4,m5,m6,m7⟩:=id Y3
 simp only [Nat.zero_add,sd0,List.length_nil] at m0 m1 m2 m3 m4 m5 m6 m7
 clear X2 Y2 oA bS rMS t3 t5 t6 u1
 go_wp2
 have Y4:=(Y3.far (p:=⟨w.heap.size,5,none⟩) (by simp) (.int .i64 mn)).far (p:=⟨w.heap.size,6,none⟩) (by simp) (.slice A4 mw.length c4)
 have Y5:=Y4.set (d':=⟨f,p,z,an,aw,mn,mw,s⟩) (A':=A2) (ca':=c2) (M':=A4) (cm':=c4)
 refine bodyPost_ret (res_span1 rfl rfl Y5) rfl ⟨A2,c2,A4,c4,rfl,?_,?_,?_⟩
 ·refine Own.mono (B:=w.heap.size + 2) ?_ lX
  iterate 10 (refine Own.far ?_ (.inl (by simp)) _)
  exact oA4
 ·refine Own.mono (B:=w.heap.size + 2) ?_ lX
  iterate 10 (refine Own.far ?_ (.inl (by simp)) _)
  exact o4.mono (by omega)
 ·iterate 10 (refine Below.setCell ?_ (by simp) _)
  exact b4
end
structure CopX (w:World) (B:Nat) (A:Option Addr) (n cap:Nat) (vs:List Sv):Prop where
 len:vs.length=n
 row_:w.ownsRow B 99 8 (.slice A n cap) n (flat8 vs)
 words:∀ v ∈ vs,Own w B v.A v.d.aw∧Own w B v.M v.d.mw
 apart:∀ v ∈ vs,∀ g,A=some ⟨g,0,none⟩ → (0 < v.d.aw.length → v.A ≠ some ⟨g,0,none⟩)∧(0 < v.d.mw.length → v.M ≠ some ⟨g,0,none⟩)
theorem CopX.srow {w:World} {B n cap:Nat} {A:Option Addr} {vs:List Sv} (h:CopX w B A n cap vs):SRow w w.heap.size A (sdsOf vs):=
 ⟨fun hl=>by
  have hn:0 < n:=by rw [← h.len];simpa [sdsOf] using hl
  obtain ⟨_,⟨h1,h2⟩ | ⟨g,cap',cur,e,_⟩⟩:=id h.row_
  ·omega
  ·injection e with e1 _ e3
   subst e1
   have hr:=h.row_
   refine ⟨g,0,rfl,(hr.lt g rfl).2,fun i hi=>?_⟩
   have hi':i < vs.length:=by simpa [sdsOf] using hi
   have hw:=h.words vs[i] (List.getElem_mem hi')
   rw [nth_sds vs i hi']
   exact ⟨vs[i].A,vs[i].ca,vs[i].M,vs[i].cm,sp8_of_owns hr h.len i (by rw [← h.len];exact hi'),hw.1.row,hw.2.row⟩⟩
theorem CopX.later {w w':World} {B n cap:Nat} {A:Option Addr} {vs:List Sv} (h:CopX w B A n cap vs) (hb:Below w.heap.size w w'):CopX w' B A n cap vs:=
 ⟨h.len,owns_laterN h.row_ hb,fun v hv=>⟨(h.words v hv).1.later hb,(h.words v hv).2.later hb⟩,h.apart⟩
theorem CopX.nil (w:World) (B:Nat):CopX w B none 0 0 []:=⟨rfl,World.ownsRow_nil _ _ _ _,fun v hv=>(by cases hv),fun v hv=>(by cases hv)⟩
theorem Own.grown {w w':World} {B:Nat} {A:Option Addr} {ws:List Nat} {row:Option Nat} (h:Own w B A ws) (hg:w.grownBy w' row) (hne:0 < ws.length → ∀ g,A=some ⟨g,0,none⟩ → some g ≠ row):Own w' B A ws:=
 ⟨h.words,fun hl=>by
  obtain ⟨g,e,h1,h2,hc⟩:=h.at_ hl
  have hb:=hg.block g h2 (hne hl g e)
  exact ⟨g,e,h1,Nat.lt_of_lt_of_le h2 hg.size,fun i hi=>⟨(World.cell?_of_block (a:=⟨g,i,none⟩) hb).trans (hc i hi).1,(World.frozen?_of_block (a:=⟨g,i,none⟩) hb).trans (hc i hi).2⟩⟩⟩
theorem CopX.snoc {w w':World} {B n cap cap' g7:Nat} {Ac:Option Addr} {vs:List Sv} {v:Sv} (h:CopX w B Ac n cap vs) (hv1:Own w B v.A v.d.aw) (hv2:Own w B v.M v.d.mw)
  (hvn:∀ g,Ac=some ⟨g,0,none⟩ → (0 < v.d.aw.length → v.A ≠ some ⟨g,0,none⟩)∧(0 < v.d.mw.length → v.M ≠ some ⟨g,0,none⟩))
  (hown:w'.ownsRow B 99 8 (.slice (some ⟨g7,0,none⟩) (n + 1) cap') (n + 1) (flat8 vs ++ cells8 v)) (hg:w.grownBy w' (Value.slice Ac n cap).ownBlock) (hat:(Value.slice Ac n cap).ownBlock=some g7 ∨ w.heap.size ≤ g7):CopX w' B (some ⟨g7,0,none⟩) (n + 1) cap' (vs ++ [v]):=by
 have hall:∀ u ∈ vs ++ [v],(Own w B u.A u.d.aw∧Own w B u.M u.d.mw)∧∀ g,Ac=some ⟨g,0,none⟩ → (0 < u.d.aw.length → u.A ≠ some ⟨g,0,none⟩)∧(0 < u.d.mw.length → u.M ≠ some ⟨g,0,none⟩):=fun u hu=>by
  rw [List.mem_append,List.mem_singleton] at hu
  rcases hu with hu | rfl
  ·exact ⟨h.words u hu,h.apart u hu⟩
  ·exact ⟨⟨hv1,hv2⟩,hvn⟩
 have hform:∀ g,(Value.slice Ac n cap).ownBlock=some g → Ac=some ⟨g,0,none⟩:=fun g hgg=>by
  obtain ⟨_,⟨e,_⟩ | ⟨g',c',cur,e,_⟩⟩:=id h.row_
  ·injection e with e
   subst e
   cases hgg
  ·injection e with e
   subst e
   injection hgg with hgg
   have:g'=g:=hgg
   rw [this]
 have key:∀ (A:Option Addr) (ws:List Nat),Own w B A ws → (∀ g,Ac=some ⟨g,0,none⟩ → 0 < ws.length → A ≠ some ⟨g,0,none⟩) → Own w' B A ws∧(0 < ws.length → A ≠ some ⟨g7,0,none⟩):=fun A ws ho hn=>by
  refine ⟨ho.grown hg (fun hl g e e2=>hn g (hform g e2.symm) hl e),fun hl e=>?_⟩
  rcases hat with hat | hat
  ·exact hn g7 (hform g7 hat) hl e
  ·obtain ⟨q,e2,_,hq,_⟩:=ho.at_ hl
   rw [e] at e2
   injection e2 with e2
   injection e2 with e2
   omega
 refine ⟨by rw [List.length_append,h.len];rfl,by rw [flat8_app];simpa [flat8] using hown,fun u hu=>?_,fun u hu g e=>?_⟩
 ·obtain ⟨⟨g1,g2⟩,g3⟩:=hall u hu
  exact ⟨(key _ _ g1 fun g e hl=>(g3 g e).1 hl).1,(key _ _ g2 fun g e hl=>(g3 g e).2 hl).1⟩
 ·injection e with e
  injection e with e
  subst e
  obtain ⟨⟨g1,g2⟩,g3⟩:=hall u hu
  exact ⟨(key _ _ g1 fun g e hl=>(g3 g e).1 hl).2,(key _ _ g2 fun g e hl=>(g3 g e).2 hl).2⟩
def WordsLe (l:List Sd):Prop:=∀ d ∈ l,d.aw.length ≤ 17592186044416∧d.mw.length ≤ 17592186044416
theorem nth_mem (l:List Sd) (i:Nat) (h:i < l.length):nth l i ∈ l:=by
 unfold nth
 rw [List.getD_eq_getElem?_getD,List.getElem?_eq_getElem h]
 exact List.getElem_mem h
theorem take_nth (l:List Sd) (i:Nat) (h:i < l.length):l.take (i + 1)=l.take i ++ [nth l i]:=by
 unfold nth
 rw [List.getD_eq_getElem?_getD,List.getElem?_eq_getElem h,List.take_add_one,List.getElem?_eq_getElem h]
 rfl
section
variable {w:World} {A:Option Addr} {l:List Sd} (cap:Nat)
set_option maxHeartbeats 4000000 in
theorem xcopyL_any (hr:SRow w w.heap.size A l) (hl:l.length ≤ 1466015503658) (hw:WordsLe l) :
  Calls Tryz.prog 72 #[.slice A l.length cap] w fun e w'=>∃ A' c' vs,e=.returned (.slice A' l.length c')∧sdsOf vs=l∧CopX w' w.heap.size A' l.length c' vs∧Below w.heap.size w w':=by
 obtain ⟨i0,hi,hz0,hz1,hz2⟩:=info_parts info_sp
 have HW:=Lib.hid hw
 clear hw
 go_enter Tryz.func72,Tryz.ntmps72
 go_wp2_with fail
 go_loopw [3,8] (fun c ii wr=>∃ k:Nat,ii=.int .i64 (k:Nat)∧k ≤ l.length∧∃ (Ac:Option Addr) (capc:Nat) (vs:List Sv),c=.slice Ac k capc∧Hid (sdsOf vs=l.take k)∧CopX wr w.heap.size Ac k capc vs∧w.heap.size ≤ wr.heap.size∧Below w.heap.size w wr) (fun _ ii _=>l.length - (intOf ii).toNat)
 case atStart=>exact ⟨0,rfl,Nat.zero_le _,none,0,[],rfl,Lib.hid rfl,CopX.nil _ _,lX,bX⟩
 case round=>
  obtain ⟨k,rfl,hk,Ac,capc,vs,rfl,HS,oC,hsz,hb_wr⟩:=hrel
  have hsr:=hb_wr.size
  by_cases hlt:k < l.length
  ·obtain ⟨b,off,hAe,hbb,hc⟩:=(hr.later hb_wr).at_ (by omega)
   obtain ⟨Aa,ca,Am,cm,c8,ra,rm⟩:=hc k hlt
   obtain ⟨wa,wm⟩:=HW.out _ (nth_mem l k hlt)
   have hnx:=take_nth l k hlt
   obtain ⟨d,hd⟩:∃ d,Hid (nth l k=d):=⟨_,rfl⟩
   rw [hd.out] at c8 ra rm wa wm hnx
   have HNX:=Lib.hid hnx
   obtain ⟨c0,c1,c2,c3,c4,c5,c6,c7⟩:=id c8
   have i1:(k:Int) < (l.length:Int):=by omega
   have i2:(0:Int) ≤ (k:Int):=by omega
   have HO:=Lib.hid fun (w:World) ha hm=>xone_any (w:=w) (A:=Aa) (M:=Am) ca cm d ha hm wa wm
   unfold OneS at HO
   subst hAe
   clear hc hnx c8 wa wm
   obtain ⟨f,p,z,an,aw,mn,mw,s⟩:=d
   unfold spv at HO
   simp only at *
   go_wp2_with fail
   go_at_call 150
   refine (HO.out _ (ra.later bX) (rm.later bX)).mono ?_
   rintro e w5 ⟨A5,C5,M5,D5,rfl,o5,o5',hb_w5⟩
   have hs5:=hb_w5.size
   (try simp only [zA] at hs5)
   have b55:Below wr.heap.size wr w5:=below_trans ((Below.refl wr.heap.size wr).alloc (Nat.le_refl _) _) hb_w5 (by simp)
   have b5:Below w.heap.size w w5:=hb_wr.trans (b55.mono hsz)
   have oC5:=oC.later b55
   have oA:Own w5 w.heap.size A5 aw:=o5.mono lX
   have oM:Own w5 w.heap.size M5 mw:=o5'.mono lX
   have hvn:∀ g,Ac=some ⟨g,0,none⟩ → (0 < aw.length → A5 ≠ some ⟨g,0,none⟩)∧(0 < mw.length → M5 ≠ some ⟨g,0,none⟩):=fun g e=>by
    have hg:g < wr.heap.size:=(oC.row_.lt g (by rw [e];rfl)).2
    have hwr:wr.heap.size ≤ (wr.alloc (.cells #[.int .i64 f,.int .i64 p,.int .i64 z,.int .i64 an,.slice Aa aw.length ca,.int .i64 mn,.slice Am mw.length cm,.bool s] 99)).heap.size:=by simp
    refine ⟨fun hl e2=>?_,fun hl e2=>?_⟩
    ·obtain ⟨q,e3,hq,_⟩:=o5.at_ hl
     rw [e2] at e3
     injection e3 with e3
     injection e3 with e3
     omega
    ·obtain ⟨q,e3,hq,_⟩:=o5'.at_ hl
     rw [e2] at e3
     injection e3 with e3
     injection e3 with e3
     omega
   have HSN:=Lib.hid fun (w6 w7:World) (g7 cap7:Nat) (hb:Below w5.heap.size w5 w6) h1 h2 h3=>CopX.snoc (w:=w6) (w':=w7) (g7:=g7) (cap':=cap7) (v:=⟨⟨f,p,z,an,aw,mn,mw,s⟩,A5,C5,M5,D5⟩) (oC5.later hb) (oA.later hb) (oM.later hb) hvn h1 h2 h3
   have oR:=oC5.row_
   clear o5 o5' oC oA oM hvn ra rm c0 c1 c2 c3 c4 c5 c6 c7 oC5
   go_wp2_with (at_builtin;refine wpList_append_lies _ ?_ (.tmp 12) (.tmp 15) 29 ?_ w.heap.size 99 i0 _ 8 96 Tryz.underlying29 hi hz0 hz1 hz2 rfl (by omega) (.slice Ac k capc) k (flat8 vs) ?_ (oR.alloc _) ⟨w5.heap.size,0,none⟩ 1 1 (cells8 ⟨⟨f,p,z,an,aw,mn,mw,s⟩,A5,C5,M5,D5⟩) ?_ (by simp [cells8]) ?_ (by intro u hu;have:=flat8_one [⟨⟨f,p,z,an,aw,mn,mw,s⟩,A5,C5,M5,D5⟩] u (by simpa [flat8] using hu);exact this) (by omega) (by unfold maxLen;omega) (by omega) lX _ rfl ?_;rfl;rfl;rfl;rfl;(intro j u hj;rw [add_form];have hj8:j < 8:=(by have:=(List.getElem?_eq_some_iff.1 hj).1;simpa [cells8] using this);have hg:=heap_alloc_new w5 (.cells #[.int .i64 f,.int .i64 p,.int .i64 z,.int .i64 an,.slice A5 aw.length C5,.int .i64 mn,.slice M5 mw.length D5,.bool s] 99);rw [cell_of_row _ _ _ _ _ _ hg,Nat.zero_add,← hj];simp [cells8]);intro g cap7 w7 hown7 hg7 hat7 hlt7;have hb_w7:Below w.heap.size _ w7:=(Below.refl _ _).grown hg7 lX (fun b hb=>oR.lt b hb |>.1);have hs7:=hb_w7.size;(try simp only [zA] at hs7))
   go_roundw
   case rel=>
    exact ⟨k + 1,by go_num,by omega,some ⟨g,0,none⟩,cap7,vs ++ [⟨⟨f,p,z,an,aw,mn,mw,s⟩,A5,C5,M5,D5⟩],rfl,Lib.hid (by rw [sds_app,HS.out,HNX.out];rfl),HSN.out _ _ _ _ bX hown7 hg7 (by rcases hat7 with h | h;exact .inl h;exact .inr (by rw [h];exact Nat.le_refl _)),lX,bX⟩
   case measure=>simp [intOf];omega
  ·obtain rfl:k=l.length:=by omega
   have hsd:=HS.out
   rw [List.take_length] at hsd
   have HSD:=Lib.hid hsd
   clear hsd
   go_wp2
   go_ret
   exact ⟨Ac,capc,vs,rfl,HSD.out,oC,hb_wr⟩
end
theorem res_hp2 {fn:Func} {p u:Tmp} (h:fn.results=#[.cell p 31,.tmp u]) {tmps:Array Value} {w:World} {g:Nat} {v0 v1 v2 v3:Value} (hp:tmps.getD p undef=.pointer (some ⟨g,0,none⟩)) (c:B4 w g v0 v1 v2 v3) :
  (results fn tmps).run Tryz.prog w=.ok (.tuple #[.agg #[v0,v1,v2,v3],tmps.getD u undef]) w:=by
 rw [results_cell_tmp h,hp]
 simp [go_sem,Result.andThen,c.c0,c.c1,c.c2,c.c3,asAddr]
theorem res_hp3 {fn:Func} {p u x:Tmp} (h:fn.results=#[.cell p 31,.tmp u,.tmp x]) {tmps:Array Value} {w:World} {g:Nat} {v0 v1 v2 v3:Value} (hp:tmps.getD p undef=.pointer (some ⟨g,0,none⟩)) (c:B4 w g v0 v1 v2 v3) :
  (results fn tmps).run Tryz.prog w=.ok (.tuple #[.agg #[v0,v1,v2,v3],tmps.getD u undef,tmps.getD x undef]) w:=by
 have hp2:tmps[p]?.getD undef=.pointer (some ⟨g,0,none⟩):=by rw [← hp];simp
 simp only [results,h]
 simp [go_sem,Result.andThen,c.c0,c.c1,c.c2,c.c3,asAddr,hp2]
theorem B4.rdx {w w':World} {b B g:Nat} {v0 v1 v2 v3:Value} {v:Hv} {hp:Hp} {Q:Nat → Prop} (h:B4 w b v0 v1 v2 v3) (r:Rdx B w w' g v hp Q) (hg:b ≠ g):B4 w' b v0 v1 v2 v3:=
 ⟨r.cell hg h.c0,r.cell hg h.c1,r.cell hg h.c2,r.cell hg h.c3,r.frozen hg h.lt h.f0,r.frozen hg h.lt h.f1,r.frozen hg h.lt h.f2,r.frozen hg h.lt h.f3⟩
theorem B4.all {w:World} {b:Nat} {v0 v1 v2 v3:Value} (h:B4 w b v0 v1 v2 v3) (u0 u1 u2 u3:Value):B4 ((((w.setCell ⟨b,0,none⟩ u0).setCell ⟨b,1,none⟩ u1).setCell ⟨b,2,none⟩ u2).setCell ⟨b,3,none⟩ u3) b u0 u1 u2 u3:=(((h.set0 u0).set1 u1).set2 u2).set3 u3
theorem OwnsH.all {w:World} {B b:Nat} {v:Hv} {h:Hp} (o:OwnsH w B v h) (hb:b < B) (u0 u1 u2 u3:Value):OwnsH ((((w.setCell ⟨b,0,none⟩ u0).setCell ⟨b,1,none⟩ u1).setCell ⟨b,2,none⟩ u2).setCell ⟨b,3,none⟩ u3) B v h:=
 (((o.far (p:=⟨b,0,none⟩) hb u0).far (p:=⟨b,1,none⟩) hb u1).far (p:=⟨b,2,none⟩) hb u2).far (p:=⟨b,3,none⟩) hb u3
theorem below_all {B b:Nat} {a w:World} (o:Below B a w) (hb:B ≤ b) (u0 u1 u2 u3:Value):Below B a ((((w.setCell ⟨b,0,none⟩ u0).setCell ⟨b,1,none⟩ u1).setCell ⟨b,2,none⟩ u2).setCell ⟨b,3,none⟩ u3):=
 (((o.setCell (p:=⟨b,0,none⟩) hb u0).setCell (p:=⟨b,1,none⟩) hb u1).setCell (p:=⟨b,2,none⟩) hb u2).setCell (p:=⟨b,3,none⟩) hb u3
theorem OwnsS.grown {w w':World} {B n cap g:Nat} {A:Option Addr} {vs:List Sv} (h:OwnsS w B A n cap vs) (hg:w.grownBy w' (some g)) (hB:g < B):OwnsS w' B A n cap vs:=
 ⟨h.len,h.row_.kept hg (.inr (by
  intro e
  obtain ⟨_,⟨e1,_⟩ | ⟨q,_,_,e1,e2,_⟩⟩:=id h.row_
  ·injection e1 with e1;subst e1;cases e
  ·injection e1 with e1;subst e1;simp [Value.ownBlock] at e;omega)),
  fun x hx=>⟨(h.words x hx).1.grown hg (fun hl q e e2=>by obtain ⟨q',e',h1,_⟩:=(h.words x hx).1.at_ hl;rw [e] at e';injection e' with e';injection e' with e';injection e2 with e2;omega),
   (h.words x hx).2.grown hg (fun hl q e e2=>by obtain ⟨q',e',h1,_⟩:=(h.words x hx).2.at_ hl;rw [e] at e';injection e' with e';injection e' with e';injection e2 with e2;omega)⟩,h.apart⟩
theorem Own.grownLt {w w':World} {B g:Nat} {A:Option Addr} {ws:List Nat} (h:Own w B A ws) (hg:w.grownBy w' (some g)) (hB:g < B):Own w' B A ws:=
 h.grown hg (fun hl q e e2=>by obtain ⟨q',e',h1,_⟩:=h.at_ hl;rw [e] at e';injection e' with e';injection e' with e';injection e2 with e2;omega)
theorem WB.grown {w w':World} {B b g:Nat} {v:Hv} {h:Hp} (m:WB w B b v h) (hg:w.grownBy w' (some g)) (hB:g < B):WB w' B b v h:=by
 obtain ⟨vs,e,h1,h2⟩:=m.s
 have hle:=m.le
 have hbl:=m.lt
 have hx:=m.box
 have ck:∀ (o:Nat) (y:Value),w.cell? ⟨b,o,none⟩=some y → w'.cell? ⟨b,o,none⟩=some y:=fun o y hy=>(World.cell?_of_block (hg.block _ hbl (by intro e;injection e with e;have e:b=g:=e;omega))).trans hy
 have fk:∀ (o:Nat),w.frozen? ⟨b,o,none⟩=false → w'.frozen? ⟨b,o,none⟩=false:=fun o hy=>(World.frozen?_of_block (w:=w) (a:=⟨b,o,none⟩) (hg.block _ hbl (by intro e;injection e with e;have e:b=g:=e;omega))).trans hy
 exact ⟨⟨ck _ _ hx.c0,ck _ _ hx.c1,ck _ _ hx.c2,ck _ _ hx.c3,fk _ hx.f0,fk _ hx.f1,fk _ hx.f2,fk _ hx.f3⟩,hle,m.a.grownLt hg hB,m.u.grownLt hg hB,⟨vs,e,h1.grown hg hB,h2⟩,m.na,m.nu⟩
theorem closed_all {h:Hp} (hk:OkH h):(cursH h).all (goodM h)=true ↔ (∀ o ∈ cursH h,o.b=true → ∀ f:Nat,(f:Int) < o.n → o.m.testBit f=true → stB h (h.ws.getD (o.a + 1 + f) 0)=true):=by
 rw [List.all_eq_true]
 constructor
 ·intro ha o ho hb f hf ht
  have h1:=ha o ho
  unfold goodM at h1
  rw [hb] at h1
  exact (refsB_iff _ _ _ _).1 (by simpa using h1) f (by omega) ht
 ·intro ha o ho
  unfold goodM
  rcases hb:o.b with _ | _
  ·rfl
  ·have h0:=cursH_n0 h o ho
   have:=(refsB_iff h.ws (stB h) o o.n.toNat).2 fun f hf ht=>ha o ho hb f (by omega) ht
   simpa using this
theorem fnO_at {h:Hp} (hk:OkH h) {o:Ob} (ho:o ∈ cursH h):fnO h o.a=o∧fnY h o.a=0:=by
 have hnd:=addrs_nodup (h:=h) hk.framed.spans
 have hpo:=addrs_pos hk.framed hk.owned hk.filled
 have hm:o.a ∈ addrs (cursH h):=List.mem_map.2 ⟨o,ho,rfl⟩
 have h0:o.a ≠ 0:=fun e=>hpo (by rw [← e];exact hm)
 have hh:hin (addrs (cursH h)) o.a ≠ 0:=(hin_mem _ _).2 ⟨h0,hm⟩
 have hy:fnY h o.a=0:=by unfold fnY;rw [if_neg h0,if_neg hh]
 obtain ⟨h1,h2⟩:=fnO_mem hy
 refine ⟨?_,hy⟩
 have hp:=cursH_asc (h:=h) hk.framed.spans
 obtain ⟨i,hi,e1⟩:=List.getElem_of_mem h1
 obtain ⟨j,hj,e2⟩:=List.getElem_of_mem ho
 rw [← e1,← e2]
 rcases Nat.lt_trichotomy i j with hlt | he | hgt
 ·have:=List.pairwise_iff_getElem.1 hp i j hi hj hlt
  rw [e1,e2] at this
  omega
 ·simp only [he]
 ·have:=List.pairwise_iff_getElem.1 hp j i hj hi hgt
  rw [e1,e2] at this
  omega
theorem closedH_iff {h:Hp} (hk:OkH h) (hs:SweptH h):(cursH h).all (goodM h)=true ↔ ClosedH h:=by
 rw [closed_all hk]
 have hl:=hk.framed.spans
 have hcw:∀ j,j < h.l.length → curW (nth h.l j)=(nth h.l j).aw:=fun j hj=>by unfold curW;rw [hs j hj];rfl
 have hst:∀ x,(x=0 ∨ Cur h x) → (stB h x=true ↔ (x=0 ∨ Mkd h x)):=by
  intro x hx
  unfold stB
  rw [Bool.or_eq_true,decide_eq_true_iff]
  by_cases h0:x=0
  ·simp [h0]
  ·rcases hx with hx | hx
   ·exact absurd hx h0
   obtain ⟨j,k,hj,hk',hc,rfl⟩:=hx
   have ho:=(cursH_iff hl (obAt h.ws (nth h.l j) j k)).2 ⟨j,k,hj,hk',hc,rfl⟩
   have hf:=(fnO_at hk ho).1
   have hf':fnO h (slA (nth h.l j) k)=obAt h.ws (nth h.l j) j k:=hf
   rw [hf']
   show (tb (nth h.l j).mw k=true ∨ _) ↔ _
   constructor
   ·rintro (h1 | h1)
    ·exact .inr ⟨j,k,hj,hk',h1,rfl⟩
    ·exact .inl h1
   ·rintro (h1 | ⟨j',k',hj',hk2,hm,ha⟩)
    ·exact .inr h1
    ·left
     have w1:=hk.slotW hj hk'
     have w2:=hk.slotW hj' hk2
     obtain ⟨rfl,rfl⟩:=slot_one hk.framed hj hk' hj' hk2 (i:=slA (nth h.l j) k) (Nat.le_refl _) (by omega) (by omega) (by omega)
     exact hm
 constructor
 ·intro ha j k hj hk' hm f hf ht
  have ok:=hl.at_ hj
  have hc:tb (curW (nth h.l j)) k=true:=by rw [hcw j hj];exact ok.sub k (by have:=ok.slK;omega) hm
  have ho:=(cursH_iff hl (obAt h.ws (nth h.l j) j k)).2 ⟨j,k,hj,hk',hc,rfl⟩
  have h1:=ha _ ho hm f hf ht
  exact (hst _ ((linked_iff hl).1 hk.linked j k hj hk' hc f hf ht)).1 h1
 ·intro ha o ho hb f hf ht
  obtain ⟨j,k,hj,hk',hc,rfl⟩:=(cursH_iff hl o).1 ho
  exact (hst _ ((linked_iff hl).1 hk.linked j k hj hk' hc f hf ht)).2 (ha j k hj hk' hb f hf ht)
def FreshH (w:World) (h:Hp) (y:Int) (e:Ending) (w':World):Prop:=∃ v,e=.returned (.tuple #[hpV v h,.int .i64 y])∧OwnsH w' w.heap.size v h∧Below w.heap.size w w'
def FreshHb (w:World) (h:Hp) (b:Bool) (y:Int) (e:Ending) (w':World):Prop:=∃ v,e=.returned (.tuple #[hpV v h,.bool b,.int .i64 y])∧OwnsH w' w.heap.size v h∧Below w.heap.size w w'
def StoE (h:Hp) (a:Nat) (f:Int) (x:Nat) (r:Bool) (h':Hp) (y:Int):Prop:=(¬ OkH h∧h'=hp0∧y=2) ∨ (OkH h∧SrE h a f x r y∧y ≠ 0∧h'=h) ∨ (OkH h∧SrE h a f x r y∧y=0∧h'=stoH h (a + 1 + f.toNat) x)
def MarE (h:Hp) (a:Nat) (h':Hp) (b:Bool) (y:Int):Prop:=(¬ OkH h∧h'=hp0∧b=false∧y=2) ∨ (OkH h∧fnY h a ≠ 0∧h'=h∧b=false∧y=fnY h a) ∨ (OkH h∧fnY h a=0∧h'=marH h (fnO h a).i (fnO h a).k∧b=(fnO h a).b∧y=0)
def UnmE (h:Hp) (h':Hp) (y:Int):Prop:=(¬ OkH h∧h'=hp0∧y=2) ∨ (OkH h∧¬ SweptH h∧h'=h∧y=5) ∨ (OkH h∧SweptH h∧h'=unmH h∧y=0)
def TrnE (h:Hp) (h':Hp) (y:Int):Prop:=(¬ OkH h∧h'=hp0∧y=2) ∨ (OkH h∧¬ SweptH h∧h'=h∧y=5) ∨ (OkH h∧SweptH h∧¬ ClosedH h∧h'=h∧y=5) ∨ (OkH h∧SweptH h∧ClosedH h∧h'=trnH h∧y=0)
theorem TrnE.ex (h:Hp):∃ h' y,TrnE h h' y:=by
 by_cases hk:OkH h
 ·by_cases h0:SweptH h
  ·by_cases h1:ClosedH h
   ·exact ⟨_,_,.inr (.inr (.inr ⟨hk,h0,h1,rfl,rfl⟩))⟩
   ·exact ⟨_,_,.inr (.inr (.inl ⟨hk,h0,h1,rfl,rfl⟩))⟩
  ·exact ⟨_,_,.inr (.inl ⟨hk,h0,rfl,rfl⟩)⟩
 ·exact ⟨_,_,.inl ⟨hk,rfl,rfl⟩⟩
section
variable {w:World} {v:Hv} {h:Hp}
set_option maxHeartbeats 4000000 in
theorem zunmarkH_any (hz:Sizes w) (hM:HM w w.heap.size v h) (hl:h.l.length ≤ 17592186044416) (hw:h.ws.length ≤ 17592186044416) (hnil:v.V=none → v.cv=0) (h':Hp) (y:Int) (hE:UnmE h h' y) :
  Calls Tryz.prog 33 #[hpV v h] w fun e w'=>FreshH w h' y e w':=by
 rcases hE with ⟨hk,rfl,rfl⟩ | ⟨hk,hs,he,rfl⟩ | ⟨hk,hs,he,rfl⟩
 ·have HR:=Lib.hid fun (w:World) z m=>zread_bad (w:=w) (v:=v) (h:=h) z m hl hw hk
  clear hk
  unfold hpV hpv at HR
  unfold FreshH hpV hpv
  go_enter Tryz.func33,Tryz.ntmps33
  go_wp2_with fail
  go_at_call 73
  refine (HR.out _ (hz.later bX) (hM.later bX)).mono ?_
  rintro e w1 ⟨rfl,hb_w1⟩
  obtain ⟨hc_w1,hf_w1⟩:=bcell hb_w1;have hz_w1_w_0:w.heap.size < w1.heap.size:=lY hb_w1.size;have hz_w1_w_1:w.heap.size + 1 < w1.heap.size:=lY hb_w1.size;have hs_w1:=hb_w1.size;(try simp only [zZ] at hs_w1)
  have hR:=(B4.new (w.alloc (.cells #[.slice v.A h.ws.length v.ca,.int .i64 h.n,.slice v.U h.us.length v.cu,.slice v.V h.l.length v.cv] 31)) (.slice none 0 0) (.int .i64 0) (.slice none 0 0) (.slice none 0 0) 31).later hb_w1
  simp only [zA] at hR
  obtain ⟨r0,r1,r2,r3,z0,z1,z2,z3⟩:=id hR
  have hb1:Below w.heap.size w w1:=bX
  clear hc_w1 hf_w1
  go_wp2
  exact bodyPost_ret (res_hp2 rfl rfl (hR.all _ _ _ _)) rfl ⟨hv0,rfl,OwnsH.zero _ _,below_all hb1 (by omega) _ _ _ _⟩
 ·subst h'
  have HR:=Lib.hid fun (w:World) z m=>zread_ok (w:=w) (v:=v) (h:=h) z m hk
  have HTW:=Lib.hid fun (w:World) m=>ztwin_any (w:=w) (v:=v) (h:=h) m hk.framed hnil
  have hl256:=hk.framed.spans.1
  have HSW:=Lib.hid fun (w:World) (V:Option Addr) (A U:Option Addr) (na ca nu cu cv:Nat) (hv:SRow w w.heap.size V h.l)=>zswept_any (w:=w) (n:=h.n) (A:=A) (U:=U) (V:=V) (l:=h.l) na ca nu cu cv hv (by omega) false ⟨fun h=>(by cases h),fun h=>absurd (fun j hj=>h j hj) hs⟩
  clear hk hs
  unfold hpv at HSW
  unfold hpV hpv at HR HTW
  unfold FreshH hpV hpv
  go_enter Tryz.func33,Tryz.ntmps33
  go_wp2_with fail
  go_at_call 73
  refine (HR.out _ (hz.later bX) (hM.later bX)).mono ?_
  rintro e w1 ⟨g,L,N,rfl,hg,hRd,hq,hb_w1⟩
  obtain ⟨hc_w1,hf_w1⟩:=bcell hb_w1;have hz_w1_w_0:w.heap.size < w1.heap.size:=lY hb_w1.size;have hz_w1_w_1:w.heap.size + 1 < w1.heap.size:=lY hb_w1.size;have hs_w1:=hb_w1.size;(try simp only [zZ] at hs_w1)
  have hR:=(B4.new (w.alloc (.cells #[.slice v.A h.ws.length v.ca,.int .i64 h.n,.slice v.U h.us.length v.cu,.slice v.V h.l.length v.cv] 31)) (.slice none 0 0) (.int .i64 0) (.slice none 0 0) (.slice none 0 0) 31).later hb_w1
  simp only [zA] at hR hg
  have hb1:Below w.heap.size w w1:=bX
  have hs1:=hR.lt
  have hg1:=hRd.rd.lt
  obtain ⟨m0,m1,m2,m3⟩:=id hRd.rd.hb
  clear hc_w1 hf_w1
  go_wp2_with fail
  go_at_call 74
  refine (HTW.out _ (hRd.rd.mem.more (by omega))).mono ?_
  rintro e w2 ⟨v2,rfl,oH,hb_w2⟩
  have hR2:=hR.later hb_w2
  have hRd2:=hRd.later hb_w2
  have hb2:Below w.heap.size w w2:=hb1.trans (hb_w2.mono hb1.size)
  have hs2:=hb_w2.size
  have hW:=WB.new oH hb_w2.size 112
  have hb3:Below w2.heap.size w2 (w2.alloc (.cells #[.slice v2.A h.ws.length v2.ca,.int .i64 h.n,.slice v2.U h.us.length v2.cu,.slice v2.V h.l.length v2.cv] 112)):=Below.alloc (Below.refl _ _) (Nat.le_refl _) _
  have hR3:=hR2.later hb3
  have hRd3:=hRd2.later hb3
  have hbb3:Below w.heap.size w (w2.alloc (.cells #[.slice v2.A h.ws.length v2.ca,.int .i64 h.n,.slice v2.U h.us.length v2.cu,.slice v2.V h.l.length v2.cv] 112)):=hb2.alloc hb2.size _
  have hs3:(w2.alloc (.cells #[.slice v2.A h.ws.length v2.ca,.int .i64 h.n,.slice v2.U h.us.length v2.cu,.slice v2.V h.l.length v2.cv] 112)).heap.size=w2.heap.size + 1:=World.size_alloc _ _
  clear hb_w1 hb_w2 m0 m1 m2 m3 hR hRd oH hR2 hRd2 hb1 hb2 hb3
  obtain ⟨c0,c1,c2,c3,f0,f1,f2,f3⟩:=id hW.box
  go_wp2_with fail
  go_at_call 109
  refine (HSW.out _ v2.V v2.A v2.U h.ws.length v2.ca h.us.length v2.cu v2.cv hW.hm.v).mono ?_
  rintro e w4 ⟨rfl,hb_w4⟩
  have hW4:=hW.later hb_w4
  have hR4:=hR3.later hb_w4
  have hRd4:=hRd3.later hb_w4
  have hs4:=hb_w4.size
  rw [hs3] at hs4
  have hb4:Below w.heap.size w w4:=hbb3.trans (hb_w4.mono hbb3.size)
  clear c0 c1 c2 c3 f0 f1 f2 f3
  obtain ⟨c0,c1,c2,c3,f0,f1,f2,f3⟩:=id hW4.box
  obtain ⟨r0,r1,r2,r3,z0,z1,z2,z3⟩:=id hR4
  go_wp2
  exact bodyPost_ret (res_hp2 rfl rfl (hR4.all _ _ _ _)) rfl ⟨v2,rfl,(hW4.owns.all (by omega) _ _ _ _).mono (by omega),below_all hb4 (by omega) _ _ _ _⟩
 ·subst h'
  have HR:=Lib.hid fun (w:World) z m=>zread_ok (w:=w) (v:=v) (h:=h) z m hk
  have HTW:=Lib.hid fun (w:World) m=>ztwin_any (w:=w) (v:=v) (h:=h) m hk.framed hnil
  have HUN:=Lib.hid fun (w:World) (B b:Nat) (v:Hv) (m:WB w B b v h)=>zunmark_any m hk.framed.spans
  have hl256:=hk.framed.spans.1
  have HSW:=Lib.hid fun (w:World) (V:Option Addr) (A U:Option Addr) (na ca nu cu cv:Nat) (hv:SRow w w.heap.size V h.l)=>zswept_any (w:=w) (n:=h.n) (A:=A) (U:=U) (V:=V) (l:=h.l) na ca nu cu cv hv (by omega) true ⟨fun _=>hs,fun _=>rfl⟩
  clear hk hs
  unfold hpv at HSW
  unfold hpV hpv at HR HTW
  unfold FreshH hpV hpv
  go_enter Tryz.func33,Tryz.ntmps33
  go_wp2_with fail
  go_at_call 73
  refine (HR.out _ (hz.later bX) (hM.later bX)).mono ?_
  rintro e w1 ⟨g,L,N,rfl,hg,hRd,hq,hb_w1⟩
  obtain ⟨hc_w1,hf_w1⟩:=bcell hb_w1;have hz_w1_w_0:w.heap.size < w1.heap.size:=lY hb_w1.size;have hz_w1_w_1:w.heap.size + 1 < w1.heap.size:=lY hb_w1.size;have hs_w1:=hb_w1.size;(try simp only [zZ] at hs_w1)
  have hR:=(B4.new (w.alloc (.cells #[.slice v.A h.ws.length v.ca,.int .i64 h.n,.slice v.U h.us.length v.cu,.slice v.V h.l.length v.cv] 31)) (.slice none 0 0) (.int .i64 0) (.slice none 0 0) (.slice none 0 0) 31).later hb_w1
  simp only [zA] at hR hg
  have hb1:Below w.heap.size w w1:=bX
  have hs1:=hR.lt
  have hg1:=hRd.rd.lt
  obtain ⟨m0,m1,m2,m3⟩:=id hRd.rd.hb
  clear hc_w1 hf_w1
  go_wp2_with fail
  go_at_call 74
  refine (HTW.out _ (hRd.rd.mem.more (by omega))).mono ?_
  rintro e w2 ⟨v2,rfl,oH,hb_w2⟩
  have hR2:=hR.later hb_w2
  have hRd2:=hRd.later hb_w2
  have hb2:Below w.heap.size w w2:=hb1.trans (hb_w2.mono hb1.size)
  have hs2:=hb_w2.size
  have hW:=WB.new oH hb_w2.size 112
  have hb3:Below w2.heap.size w2 (w2.alloc (.cells #[.slice v2.A h.ws.length v2.ca,.int .i64 h.n,.slice v2.U h.us.length v2.cu,.slice v2.V h.l.length v2.cv] 112)):=Below.alloc (Below.refl _ _) (Nat.le_refl _) _
  have hR3:=hR2.later hb3
  have hRd3:=hRd2.later hb3
  have hbb3:Below w.heap.size w (w2.alloc (.cells #[.slice v2.A h.ws.length v2.ca,.int .i64 h.n,.slice v2.U h.us.length v2.cu,.slice v2.V h.l.length v2.cv] 112)):=hb2.alloc hb2.size _
  have hs3:(w2.alloc (.cells #[.slice v2.A h.ws.length v2.ca,.int .i64 h.n,.slice v2.U h.us.length v2.cu,.slice v2.V h.l.length v2.cv] 112)).heap.size=w2.heap.size + 1:=World.size_alloc _ _
  clear hb_w1 hb_w2 m0 m1 m2 m3 hR hRd oH hR2 hRd2 hb1 hb2 hb3
  obtain ⟨c0,c1,c2,c3,f0,f1,f2,f3⟩:=id hW.box
  go_wp2_with fail
  go_at_call 109
  refine (HSW.out _ v2.V v2.A v2.U h.ws.length v2.ca h.us.length v2.cu v2.cv hW.hm.v).mono ?_
  rintro e w4 ⟨rfl,hb_w4⟩
  have hW4:=hW.later hb_w4
  have hR4:=hR3.later hb_w4
  have hRd4:=hRd3.later hb_w4
  have hs4:=hb_w4.size
  rw [hs3] at hs4
  have hb4:Below w.heap.size w w4:=hbb3.trans (hb_w4.mono hbb3.size)
  clear c0 c1 c2 c3 f0 f1 f2 f3
  obtain ⟨c0,c1,c2,c3,f0,f1,f2,f3⟩:=id hW4.box
  go_wp2_with fail
  go_at_call 110
  refine (HUN.out _ _ _ _ hW4).mono ?_
  rintro e w5 ⟨rfl,hW5,hb_w5⟩
  clear c0 c1 c2 c3 f0 f1 f2 f3
  have hR5:=hR4.below hb_w5 (by omega)
  have hs5:=hb_w5.size
  have hb5:Below w.heap.size w w5:=hb4.trans (hb_w5.mono (by omega))
  obtain ⟨c0,c1,c2,c3,f0,f1,f2,f3⟩:=id hW5.box
  obtain ⟨r0,r1,r2,r3,z0,z1,z2,z3⟩:=id hR5
  go_wp2
  exact bodyPost_ret (res_hp2 rfl rfl (hR5.all _ _ _ _)) rfl ⟨v2,rfl,(hW5.owns.all (by omega) _ _ _ _).mono (by omega),below_all hb5 (by omega) _ _ _ _⟩
set_option maxHeartbeats 4000000 in
theorem zturnH_any (hz:Sizes w) (hM:HM w w.heap.size v h) (hl:h.l.length ≤ 17592186044416) (hw:h.ws.length ≤ 17592186044416) (hnil:v.V=none → v.cv=0) (h':Hp) (y:Int) (hE:TrnE h h' y) :
  Calls Tryz.prog 38 #[hpV v h] w fun e w'=>FreshH w h' y e w':=by
 rcases hE with ⟨hk,rfl,rfl⟩ | ⟨hk,hs,he,rfl⟩ | ⟨hk,hs,hc,he,rfl⟩ | ⟨hk,hs,hc,he,rfl⟩
 ·have HR:=Lib.hid fun (w:World) z m=>zread_bad (w:=w) (v:=v) (h:=h) z m hl hw hk
  clear hk
  unfold hpV hpv at HR
  unfold FreshH hpV hpv
  go_enter Tryz.func38,Tryz.ntmps38
  go_wp2_with fail
  go_at_call 73
  refine (HR.out _ (hz.later bX) (hM.later bX)).mono ?_
  rintro e w1 ⟨rfl,hb_w1⟩
  obtain ⟨hc_w1,hf_w1⟩:=bcell hb_w1;have hz_w1_w_0:w.heap.size < w1.heap.size:=lY hb_w1.size;have hz_w1_w_1:w.heap.size + 1 < w1.heap.size:=lY hb_w1.size;have hs_w1:=hb_w1.size;(try simp only [zZ] at hs_w1)
  have hR:=(B4.new (w.alloc (.cells #[.slice v.A h.ws.length v.ca,.int .i64 h.n,.slice v.U h.us.length v.cu,.slice v.V h.l.length v.cv] 31)) (.slice none 0 0) (.int .i64 0) (.slice none 0 0) (.slice none 0 0) 31).later hb_w1
  simp only [zA] at hR
  obtain ⟨r0,r1,r2,r3,z0,z1,z2,z3⟩:=id hR
  have hb1:Below w.heap.size w w1:=bX
  clear hc_w1 hf_w1
  go_wp2
  exact bodyPost_ret (res_hp2 rfl rfl (hR.all _ _ _ _)) rfl ⟨hv0,rfl,OwnsH.zero _ _,below_all hb1 (by omega) _ _ _ _⟩
 ·subst h'
  have HR:=Lib.hid fun (w:World) z m=>zread_ok (w:=w) (v:=v) (h:=h) z m hk
  have HTW:=Lib.hid fun (w:World) m=>ztwin_any (w:=w) (v:=v) (h:=h) m hk.framed hnil
  have hl256:=hk.framed.spans.1
  have HSW:=Lib.hid fun (w:World) (V:Option Addr) (A U:Option Addr) (na ca nu cu cv:Nat) (hv:SRow w w.heap.size V h.l)=>zswept_any (w:=w) (n:=h.n) (A:=A) (U:=U) (V:=V) (l:=h.l) na ca nu cu cv hv (by omega) false ⟨fun h=>(by cases h),fun h=>absurd (fun j hj=>h j hj) hs⟩
  clear hk hs
  unfold hpv at HSW
  unfold hpV hpv at HR HTW
  unfold FreshH hpV hpv
  go_enter Tryz.func38,Tryz.ntmps38
  go_wp2_with fail
  go_at_call 73
  refine (HR.out _ (hz.later bX) (hM.later bX)).mono ?_
  rintro e w1 ⟨g,L,N,rfl,hg,hRd,hq,hb_w1⟩
  obtain ⟨hc_w1,hf_w1⟩:=bcell hb_w1;have hz_w1_w_0:w.heap.size < w1.heap.size:=lY hb_w1.size;have hz_w1_w_1:w.heap.size + 1 < w1.heap.size:=lY hb_w1.size;have hs_w1:=hb_w1.size;(try simp only [zZ] at hs_w1)
  have hR:=(B4.new (w.alloc (.cells #[.slice v.A h.ws.length v.ca,.int .i64 h.n,.slice v.U h.us.length v.cu,.slice v.V h.l.length v.cv] 31)) (.slice none 0 0) (.int .i64 0) (.slice none 0 0) (.slice none 0 0) 31).later hb_w1
  simp only [zA] at hR hg
  have hb1:Below w.heap.size w w1:=bX
  have hs1:=hR.lt
  have hg1:=hRd.rd.lt
  obtain ⟨m0,m1,m2,m3⟩:=id hRd.rd.hb
  clear hc_w1 hf_w1
  go_wp2_with fail
  go_at_call 74
  refine (HTW.out _ (hRd.rd.mem.more (by omega))).mono ?_
  rintro e w2 ⟨v2,rfl,oH,hb_w2⟩
  have hR2:=hR.later hb_w2
  have hRd2:=hRd.later hb_w2
  have hb2:Below w.heap.size w w2:=hb1.trans (hb_w2.mono hb1.size)
  have hs2:=hb_w2.size
  have hW:=WB.new oH hb_w2.size 112
  have hb3:Below w2.heap.size w2 (w2.alloc (.cells #[.slice v2.A h.ws.length v2.ca,.int .i64 h.n,.slice v2.U h.us.length v2.cu,.slice v2.V h.l.length v2.cv] 112)):=Below.alloc (Below.refl _ _) (Nat.le_refl _) _
  have hR3:=hR2.later hb3
  have hRd3:=hRd2.later hb3
  have hbb3:Below w.heap.size w (w2.alloc (.cells #[.slice v2.A h.ws.length v2.ca,.int .i64 h.n,.slice v2.U h.us.length v2.cu,.slice v2.V h.l.length v2.cv] 112)):=hb2.alloc hb2.size _
  have hs3:(w2.alloc (.cells #[.slice v2.A h.ws.length v2.ca,.int .i64 h.n,.slice v2.U h.us.length v2.cu,.slice v2.V h.l.length v2.cv] 112)).heap.size=w2.heap.size + 1:=World.size_alloc _ _
  clear hb_w1 hb_w2 m0 m1 m2 m3 hR hRd oH hR2 hRd2 hb1 hb2 hb3
  obtain ⟨c0,c1,c2,c3,f0,f1,f2,f3⟩:=id hW.box
  go_wp2_with fail
  go_at_call 109
  refine (HSW.out _ v2.V v2.A v2.U h.ws.length v2.ca h.us.length v2.cu v2.cv hW.hm.v).mono ?_
  rintro e w4 ⟨rfl,hb_w4⟩
  have hW4:=hW.later hb_w4
  have hR4:=hR3.later hb_w4
  have hRd4:=hRd3.later hb_w4
  have hs4:=hb_w4.size
  rw [hs3] at hs4
  have hb4:Below w.heap.size w w4:=hbb3.trans (hb_w4.mono hbb3.size)
  clear c0 c1 c2 c3 f0 f1 f2 f3
  obtain ⟨c0,c1,c2,c3,f0,f1,f2,f3⟩:=id hW4.box
  obtain ⟨r0,r1,r2,r3,z0,z1,z2,z3⟩:=id hR4
  go_wp2
  exact bodyPost_ret (res_hp2 rfl rfl (hR4.all _ _ _ _)) rfl ⟨v2,rfl,(hW4.owns.all (by omega) _ _ _ _).mono (by omega),below_all hb4 (by omega) _ _ _ _⟩
 ·subst h'
  have HR:=Lib.hid fun (w:World) z m=>zread_ok (w:=w) (v:=v) (h:=h) z m hk
  have HTW:=Lib.hid fun (w:World) m=>ztwin_any (w:=w) (v:=v) (h:=h) m hk.framed hnil
  have hl256:=hk.framed.spans.1
  have HSW:=Lib.hid fun (w:World) (V:Option Addr) (A U:Option Addr) (na ca nu cu cv:Nat) (hv:SRow w w.heap.size V h.l)=>zswept_any (w:=w) (n:=h.n) (A:=A) (U:=U) (V:=V) (l:=h.l) na ca nu cu cv hv (by omega) true ⟨fun _=>hs,fun _=>rfl⟩
  have HCL:=Lib.hid fun (w:World) (g:Nat) (L N:Value) (r:RdL w g v h L N)=>zclosed_any w g v h hk.framed hk.owned hk.filled L N r false (by rw [Bool.eq_false_iff];intro ha;exact hc ((closedH_iff hk hs).1 ha))
  clear hk hs hc
  unfold hpv at HSW
  unfold hpV hpv at HR HTW
  unfold FreshH hpV hpv
  go_enter Tryz.func38,Tryz.ntmps38
  go_wp2_with fail
  go_at_call 73
  refine (HR.out _ (hz.later bX) (hM.later bX)).mono ?_
  rintro e w1 ⟨g,L,N,rfl,hg,hRd,hq,hb_w1⟩
  obtain ⟨hc_w1,hf_w1⟩:=bcell hb_w1;have hz_w1_w_0:w.heap.size < w1.heap.size:=lY hb_w1.size;have hz_w1_w_1:w.heap.size + 1 < w1.heap.size:=lY hb_w1.size;have hs_w1:=hb_w1.size;(try simp only [zZ] at hs_w1)
  have hR:=(B4.new (w.alloc (.cells #[.slice v.A h.ws.length v.ca,.int .i64 h.n,.slice v.U h.us.length v.cu,.slice v.V h.l.length v.cv] 31)) (.slice none 0 0) (.int .i64 0) (.slice none 0 0) (.slice none 0 0) 31).later hb_w1
  simp only [zA] at hR hg
  have hb1:Below w.heap.size w w1:=bX
  have hs1:=hR.lt
  have hg1:=hRd.rd.lt
  obtain ⟨m0,m1,m2,m3⟩:=id hRd.rd.hb
  clear hc_w1 hf_w1
  go_wp2_with fail
  go_at_call 74
  refine (HTW.out _ (hRd.rd.mem.more (by omega))).mono ?_
  rintro e w2 ⟨v2,rfl,oH,hb_w2⟩
  have hR2:=hR.later hb_w2
  have hRd2:=hRd.later hb_w2
  have hb2:Below w.heap.size w w2:=hb1.trans (hb_w2.mono hb1.size)
  have hs2:=hb_w2.size
  have hW:=WB.new oH hb_w2.size 112
  have hb3:Below w2.heap.size w2 (w2.alloc (.cells #[.slice v2.A h.ws.length v2.ca,.int .i64 h.n,.slice v2.U h.us.length v2.cu,.slice v2.V h.l.length v2.cv] 112)):=Below.alloc (Below.refl _ _) (Nat.le_refl _) _
  have hR3:=hR2.later hb3
  have hRd3:=hRd2.later hb3
  have hbb3:Below w.heap.size w (w2.alloc (.cells #[.slice v2.A h.ws.length v2.ca,.int .i64 h.n,.slice v2.U h.us.length v2.cu,.slice v2.V h.l.length v2.cv] 112)):=hb2.alloc hb2.size _
  have hs3:(w2.alloc (.cells #[.slice v2.A h.ws.length v2.ca,.int .i64 h.n,.slice v2.U h.us.length v2.cu,.slice v2.V h.l.length v2.cv] 112)).heap.size=w2.heap.size + 1:=World.size_alloc _ _
  clear hb_w1 hb_w2 m0 m1 m2 m3 hR hRd oH hR2 hRd2 hb1 hb2 hb3
  obtain ⟨c0,c1,c2,c3,f0,f1,f2,f3⟩:=id hW.box
  go_wp2_with fail
  go_at_call 109
  refine (HSW.out _ v2.V v2.A v2.U h.ws.length v2.ca h.us.length v2.cu v2.cv hW.hm.v).mono ?_
  rintro e w4 ⟨rfl,hb_w4⟩
  have hW4:=hW.later hb_w4
  have hR4:=hR3.later hb_w4
  have hRd4:=hRd3.later hb_w4
  have hs4:=hb_w4.size
  rw [hs3] at hs4
  have hb4:Below w.heap.size w w4:=hbb3.trans (hb_w4.mono hbb3.size)
  clear c0 c1 c2 c3 f0 f1 f2 f3
  obtain ⟨c0,c1,c2,c3,f0,f1,f2,f3⟩:=id hW4.box
  go_wp2_with fail
  go_at_call 114
  refine (HCL.out _ _ _ _ hRd4).mono ?_
  rintro e w5 ⟨rfl,hX5⟩
  have hW5:=hW4.grown hX5.grown (by omega)
  have hR5:=hR4.rdx hX5 (by omega)
  have hs5:=hX5.grown.size
  have hb5:Below w.heap.size w w5:=hX5.below hb4 hb4.size (by omega)
  clear c0 c1 c2 c3 f0 f1 f2 f3
  obtain ⟨c0,c1,c2,c3,f0,f1,f2,f3⟩:=id hW5.box
  obtain ⟨r0,r1,r2,r3,z0,z1,z2,z3⟩:=id hR5
  go_wp2
  exact bodyPost_ret (res_hp2 rfl rfl (hR5.all _ _ _ _)) rfl ⟨v2,rfl,(hW5.owns.all (by omega) _ _ _ _).mono (by omega),below_all hb5 (by omega) _ _ _ _⟩
 ·subst h'
  have HR:=Lib.hid fun (w:World) z m=>zread_ok (w:=w) (v:=v) (h:=h) z m hk
  have HTW:=Lib.hid fun (w:World) m=>ztwin_any (w:=w) (v:=v) (h:=h) m hk.framed hnil
  have HTU:=Lib.hid fun (w:World) (B b:Nat) (v:Hv) (m:WB w B b v h)=>zturn_any m hk.framed.spans.1
  have hl256:=hk.framed.spans.1
  have HSW:=Lib.hid fun (w:World) (V:Option Addr) (A U:Option Addr) (na ca nu cu cv:Nat) (hv:SRow w w.heap.size V h.l)=>zswept_any (w:=w) (n:=h.n) (A:=A) (U:=U) (V:=V) (l:=h.l) na ca nu cu cv hv (by omega) true ⟨fun _=>hs,fun _=>rfl⟩
  have HCL:=Lib.hid fun (w:World) (g:Nat) (L N:Value) (r:RdL w g v h L N)=>zclosed_any w g v h hk.framed hk.owned hk.filled L N r true ((closedH_iff hk hs).2 hc)
  clear hk hs hc
  unfold hpv at HSW
  unfold hpV hpv at HR HTW
  unfold FreshH hpV hpv
  go_enter Tryz.func38,Tryz.ntmps38
  go_wp2_with fail
  go_at_call 73
  refine (HR.out _ (hz.later bX) (hM.later bX)).mono ?_
  rintro e w1 ⟨g,L,N,rfl,hg,hRd,hq,hb_w1⟩
  obtain ⟨hc_w1,hf_w1⟩:=bcell hb_w1;have hz_w1_w_0:w.heap.size < w1.heap.size:=lY hb_w1.size;have hz_w1_w_1:w.heap.size + 1 < w1.heap.size:=lY hb_w1.size;have hs_w1:=hb_w1.size;(try simp only [zZ] at hs_w1)
  have hR:=(B4.new (w.alloc (.cells #[.slice v.A h.ws.length v.ca,.int .i64 h.n,.slice v.U h.us.length v.cu,.slice v.V h.l.length v.cv] 31)) (.slice none 0 0) (.int .i64 0) (.slice none 0 0) (.slice none 0 0) 31).later hb_w1
  simp only [zA] at hR hg
  have hb1:Below w.heap.size w w1:=bX
  have hs1:=hR.lt
  have hg1:=hRd.rd.lt
  obtain ⟨m0,m1,m2,m3⟩:=id hRd.rd.hb
  clear hc_w1 hf_w1
  go_wp2_with fail
  go_at_call 74
  refine (HTW.out _ (hRd.rd.mem.more (by omega))).mono ?_
  rintro e w2 ⟨v2,rfl,oH,hb_w2⟩
  have hR2:=hR.later hb_w2
  have hRd2:=hRd.later hb_w2
  have hb2:Below w.heap.size w w2:=hb1.trans (hb_w2.mono hb1.size)
  have hs2:=hb_w2.size
  have hW:=WB.new oH hb_w2.size 112
  have hb3:Below w2.heap.size w2 (w2.alloc (.cells #[.slice v2.A h.ws.length v2.ca,.int .i64 h.n,.slice v2.U h.us.length v2.cu,.slice v2.V h.l.length v2.cv] 112)):=Below.alloc (Below.refl _ _) (Nat.le_refl _) _
  have hR3:=hR2.later hb3
  have hRd3:=hRd2.later hb3
  have hbb3:Below w.heap.size w (w2.alloc (.cells #[.slice v2.A h.ws.length v2.ca,.int .i64 h.n,.slice v2.U h.us.length v2.cu,.slice v2.V h.l.length v2.cv] 112)):=hb2.alloc hb2.size _
  have hs3:(w2.alloc (.cells #[.slice v2.A h.ws.length v2.ca,.int .i64 h.n,.slice v2.U h.us.length v2.cu,.slice v2.V h.l.length v2.cv] 112)).heap.size=w2.heap.size + 1:=World.size_alloc _ _
  clear hb_w1 hb_w2 m0 m1 m2 m3 hR hRd oH hR2 hRd2 hb1 hb2 hb3
  obtain ⟨c0,c1,c2,c3,f0,f1,f2,f3⟩:=id hW.box
  go_wp2_with fail
  go_at_call 109
  refine (HSW.out _ v2.V v2.A v2.U h.ws.length v2.ca h.us.length v2.cu v2.cv hW.hm.v).mono ?_
  rintro e w4 ⟨rfl,hb_w4⟩
  have hW4:=hW.later hb_w4
  have hR4:=hR3.later hb_w4
  have hRd4:=hRd3.later hb_w4
  have hs4:=hb_w4.size
  rw [hs3] at hs4
  have hb4:Below w.heap.size w w4:=hbb3.trans (hb_w4.mono hbb3.size)
  clear c0 c1 c2 c3 f0 f1 f2 f3
  obtain ⟨c0,c1,c2,c3,f0,f1,f2,f3⟩:=id hW4.box
  go_wp2_with fail
  go_at_call 114
  refine (HCL.out _ _ _ _ hRd4).mono ?_
  rintro e w5 ⟨rfl,hX5⟩
  have hW5:=hW4.grown hX5.grown (by omega)
  have hR5:=hR4.rdx hX5 (by omega)
  have hs5:=hX5.grown.size
  have hb5:Below w.heap.size w w5:=hX5.below hb4 hb4.size (by omega)
  clear c0 c1 c2 c3 f0 f1 f2 f3
  obtain ⟨c0,c1,c2,c3,f0,f1,f2,f3⟩:=id hW5.box
  go_wp2_with fail
  go_at_call 115
  refine (HTU.out _ _ _ _ hW5).mono ?_
  rintro e w6 ⟨rfl,hW6,hb_w6⟩
  clear c0 c1 c2 c3 f0 f1 f2 f3
  have hR6:=hR5.below hb_w6 (by omega)
  have hs6:=hb_w6.size
  have hb6:Below w.heap.size w w6:=hb5.trans (hb_w6.mono (by omega))
  obtain ⟨c0,c1,c2,c3,f0,f1,f2,f3⟩:=id hW6.box
  obtain ⟨r0,r1,r2,r3,z0,z1,z2,z3⟩:=id hR6
  go_wp2
  exact bodyPost_ret (res_hp2 rfl rfl (hR6.all _ _ _ _)) rfl ⟨v2,rfl,(hW6.owns.all (by omega) _ _ _ _).mono (by omega),below_all hb6 (by omega) _ _ _ _⟩
end
section
variable {w:World} {v:Hv} {h:Hp}
theorem B6.grown7 {w w':World} {B b:Nat} {v:Hv} {h:Hp} {o oo:Ob} {t:TypeId} (h6:B6 (w.alloc (.cells #[.int .u64 o.a,.int .i64 o.n,.int .u64 o.m,.int .i64 o.i,.int .i64 o.k,.bool o.b] t)) w.heap.size oo) (m:WB w B b v h) (hne:0 < h.l.length) (hg:∀ g,v.V=some ⟨g,0,none⟩ → (w.alloc (.cells #[.int .u64 o.a,.int .i64 o.n,.int .u64 o.m,.int .i64 o.i,.int .i64 o.k,.bool o.b] t)).grownBy w' (some g)):B6 w' w.heap.size oo:=by
 obtain ⟨vs,_,hS,_⟩:=m.s
 obtain ⟨g,hV,_,hgl⟩:=m.block hS hne
 have hg':=hg g hV
 have ck:∀ (j:Nat) (y:Value),(w.alloc (.cells #[.int .u64 o.a,.int .i64 o.n,.int .u64 o.m,.int .i64 o.i,.int .i64 o.k,.bool o.b] t)).cell? ⟨w.heap.size,j,none⟩=some y → w'.cell? ⟨w.heap.size,j,none⟩=some y:=fun j y hy=>
  (World.cell?_of_block (hg'.block _ (World.block_lt_of_cell? _ _ hy) (by intro e;injection e with e;have e:w.heap.size=g:=e;omega))).trans hy
 have fk:∀ (j:Nat),(w.alloc (.cells #[.int .u64 o.a,.int .i64 o.n,.int .u64 o.m,.int .i64 o.i,.int .i64 o.k,.bool o.b] t)).frozen? ⟨w.heap.size,j,none⟩=false → w'.frozen? ⟨w.heap.size,j,none⟩=false:=fun j hy=>
  (World.frozen?_of_block (a:=⟨w.heap.size,j,none⟩) (hg'.block _ h6.lt (by intro e;injection e with e;have e:w.heap.size=g:=e;omega))).trans hy
 exact ⟨ck _ _ h6.c0,ck _ _ h6.c1,ck _ _ h6.c2,ck _ _ h6.c3,ck _ _ h6.c4,ck _ _ h6.c5,fk _ h6.f0,fk _ h6.f1,fk _ h6.f2,fk _ h6.f3,fk _ h6.f4,fk _ h6.f5⟩
set_option maxHeartbeats 4000000 in
theorem zstoreH_any (hz:Sizes w) (hM:HM w w.heap.size v h) (hl:h.l.length ≤ 17592186044416) (hw:h.ws.length ≤ 17592186044416) (hnil:v.V=none → v.cv=0) (a:Nat) (ha:a < W64) (f:Int) (x:Nat) (hx:x < W64) (r:Bool) (h':Hp) (y:Int) (hE:StoE h a f x r h' y) :
  Calls Tryz.prog 27 #[hpV v h,.int .u64 (a:Nat),.int .i64 f,.int .u64 (x:Nat),.bool r] w fun e w'=>FreshH w h' y e w':=by
 rcases hE with ⟨hk,rfl,rfl⟩ | ⟨hk,hs,hy,he⟩ | ⟨hk,hs,hy,he⟩
 ·have HR:=Lib.hid fun (w:World) z m=>zread_bad (w:=w) (v:=v) (h:=h) z m hl hw hk
  clear hk
  unfold hpV hpv at HR
  unfold FreshH hpV hpv
  go_enter Tryz.func27,Tryz.ntmps27
  go_wp2_with fail
  go_at_call 73
  refine (HR.out _ (hz.later bX) (hM.later bX)).mono ?_
  rintro e w1 ⟨rfl,hb_w1⟩
  obtain ⟨hc_w1,hf_w1⟩:=bcell hb_w1;have hz_w1_w_0:w.heap.size < w1.heap.size:=lY hb_w1.size;have hz_w1_w_1:w.heap.size + 1 < w1.heap.size:=lY hb_w1.size;have hs_w1:=hb_w1.size;(try simp only [zZ] at hs_w1)
  have hR:=(B4.new (w.alloc (.cells #[.slice v.A h.ws.length v.ca,.int .i64 h.n,.slice v.U h.us.length v.cu,.slice v.V h.l.length v.cv] 31)) (.slice none 0 0) (.int .i64 0) (.slice none 0 0) (.slice none 0 0) 31).later hb_w1
  simp only [zA] at hR
  obtain ⟨r0,r1,r2,r3,z0,z1,z2,z3⟩:=id hR
  have hb1:Below w.heap.size w w1:=bX
  clear hc_w1 hf_w1
  go_wp2
  exact bodyPost_ret (res_hp2 rfl rfl (hR.all _ _ _ _)) rfl ⟨hv0,rfl,OwnsH.zero _ _,below_all hb1 (by omega) _ _ _ _⟩
 ·subst h'
  have HR:=Lib.hid fun (w:World) z m=>zread_ok (w:=w) (v:=v) (h:=h) z m hk
  have HTW:=Lib.hid fun (w:World) m=>ztwin_any (w:=w) (v:=v) (h:=h) m hk.framed hnil
  have HST:=Lib.hid fun (w:World) (g:Nat) (L N:Value) (rr:RdL w g v h L N)=>zstorable_any (w:=w) (g:=g) (v:=v) hk L N rr a ha f x hx r y hs
  rw [if_neg hy] at HST
  have d0:(y != 0)=true:=by simpa using hy
  clear hk hs hy
  unfold obV ob0 at HST
  simp only at HST
  unfold hpV hpv at HR HTW
  unfold FreshH hpV hpv
  go_enter Tryz.func27,Tryz.ntmps27
  go_wp2_with fail
  go_at_call 73
  refine (HR.out _ (hz.later bX) (hM.later bX)).mono ?_
  rintro e w1 ⟨g,L,N,rfl,hg,hRd,hq,hb_w1⟩
  obtain ⟨hc_w1,hf_w1⟩:=bcell hb_w1;have hz_w1_w_0:w.heap.size < w1.heap.size:=lY hb_w1.size;have hz_w1_w_1:w.heap.size + 1 < w1.heap.size:=lY hb_w1.size;have hs_w1:=hb_w1.size;(try simp only [zZ] at hs_w1)
  have hR:=(B4.new (w.alloc (.cells #[.slice v.A h.ws.length v.ca,.int .i64 h.n,.slice v.U h.us.length v.cu,.slice v.V h.l.length v.cv] 31)) (.slice none 0 0) (.int .i64 0) (.slice none 0 0) (.slice none 0 0) 31).later hb_w1
  simp only [zA] at hR hg
  have hb1:Below w.heap.size w w1:=bX
  have hs1:=hR.lt
  have hg1:=hRd.rd.lt
  obtain ⟨m0,m1,m2,m3⟩:=id hRd.rd.hb
  clear hc_w1 hf_w1
  go_wp2_with fail
  go_at_call 74
  refine (HTW.out _ (hRd.rd.mem.more (by omega))).mono ?_
  rintro e w2 ⟨v2,rfl,oH,hb_w2⟩
  have hR2:=hR.later hb_w2
  have hRd2:=hRd.later hb_w2
  have hb2:Below w.heap.size w w2:=hb1.trans (hb_w2.mono hb1.size)
  have hs2:=hb_w2.size
  have hW:=WB.new oH hb_w2.size 112
  have hb3:Below w2.heap.size w2 (w2.alloc (.cells #[.slice v2.A h.ws.length v2.ca,.int .i64 h.n,.slice v2.U h.us.length v2.cu,.slice v2.V h.l.length v2.cv] 112)):=Below.alloc (Below.refl _ _) (Nat.le_refl _) _
  have hR3:=hR2.later hb3
  have hRd3:=hRd2.later hb3
  have hbb3:Below w.heap.size w (w2.alloc (.cells #[.slice v2.A h.ws.length v2.ca,.int .i64 h.n,.slice v2.U h.us.length v2.cu,.slice v2.V h.l.length v2.cv] 112)):=hb2.alloc hb2.size _
  have hs3:(w2.alloc (.cells #[.slice v2.A h.ws.length v2.ca,.int .i64 h.n,.slice v2.U h.us.length v2.cu,.slice v2.V h.l.length v2.cv] 112)).heap.size=w2.heap.size + 1:=World.size_alloc _ _
  clear hb_w1 hb_w2 m0 m1 m2 m3 hR hRd oH hR2 hRd2 hb1 hb2 hb3
  obtain ⟨c0,c1,c2,c3,f0,f1,f2,f3⟩:=id hW.box
  go_wp2_with fail
  go_at_call 104
  refine (HST.out _ _ _ _ hRd3).mono ?_
  rintro e w5 ⟨rfl,hX5⟩
  have hW5:=hW.grown hX5.grown (by omega)
  have hR5:=hR3.rdx hX5 (by omega)
  have hs5:=hX5.grown.size
  rw [hs3] at hs5
  have hb5:Below w.heap.size w w5:=hX5.below hbb3 hbb3.size (by omega)
  clear c0 c1 c2 c3 f0 f1 f2 f3
  obtain ⟨c0,c1,c2,c3,f0,f1,f2,f3⟩:=id hW5.box
  obtain ⟨r0,r1,r2,r3,z0,z1,z2,z3⟩:=id hR5
  have hlb:=hW5.lt
  have hlr:=hR5.lt
  go_wp2
  have hq1:=hR5.all (.slice v2.A h.ws.length v2.ca) (.int .i64 h.n) (.slice v2.U h.us.length v2.cu) (.slice v2.V h.l.length v2.cv)
  have hq2:=hW5.owns.all (b:=w.heap.size + 1) (by omega) (.slice v2.A h.ws.length v2.ca) (.int .i64 h.n) (.slice v2.U h.us.length v2.cu) (.slice v2.V h.l.length v2.cv)
  have hq3:=below_all hb5 (b:=w.heap.size + 1) (by omega) (.slice v2.A h.ws.length v2.ca) (.int .i64 h.n) (.slice v2.U h.us.length v2.cu) (.slice v2.V h.l.length v2.cv)
  first
   | exact bodyPost_ret (res_hp2 rfl rfl (hq1.later (Below.alloc (Below.refl _ _) (Nat.le_refl _) _))) rfl ⟨v2,rfl,(hq2.later (Below.alloc (Below.refl _ _) (Nat.le_refl _) _)).mono (by omega),hq3.alloc hq3.size _⟩
   | exact bodyPost_ret (res_hp2 rfl rfl ((hR5.later (Below.alloc (Below.refl _ _) (Nat.le_refl _) _)).all _ _ _ _)) rfl ⟨v2,rfl,((hW5.later (Below.alloc (Below.refl _ _) (Nat.le_refl _) _)).owns.all (b:=w.heap.size + 1) (by omega) _ _ _ _).mono (by omega),below_all (b:=w.heap.size + 1) (hb5.alloc hb5.size _) (by omega) _ _ _ _⟩
 ·subst h' y
  have HR:=Lib.hid fun (w:World) z m=>zread_ok (w:=w) (v:=v) (h:=h) z m hk
  have HTW:=Lib.hid fun (w:World) m=>ztwin_any (w:=w) (v:=v) (h:=h) m hk.framed hnil
  have HST:=Lib.hid fun (w:World) (g:Nat) (L N:Value) (rr:RdL w g v h L N)=>zstorable_any (w:=w) (g:=g) (v:=v) hk L N rr a ha f x hx r 0 hs
  rw [if_pos rfl] at HST
  obtain ⟨hy0,hf⟩:fnY h a=0∧(0 ≤ f∧f < (fnO h a).n):=by
   rcases hs with ⟨h1,h2⟩ | ⟨_,_,h2⟩ | ⟨_,_,_,h2⟩ | ⟨_,_,_,_,_,h2⟩ | ⟨h1,h2,_⟩
   ·exact absurd h2.symm h1
   ·cases h2
   ·cases h2
   ·cases h2
   ·exact ⟨h1,h2⟩
  obtain ⟨OK,hoa⟩:=fnO_shape hk hy0
  have hn48:=OK.n1
  have hal:=OK.a1
  have hw16:=hk.framed.words
  obtain ⟨F,rfl⟩:∃ F:Nat,f=(F:Int):=⟨f.toNat,by omega⟩
  rw [Int.toNat_natCast]
  generalize ho:fnO h a=o at *
  obtain ⟨oi,ok,oa,on,om,ob,oc⟩:=o
  simp only at hf hoa hn48 hal
  subst hoa
  have HFI:=Lib.hid fun (w:World)=>zfield_any w ⟨oi,ok,oa,on,om,ob,oc⟩ F (by omega) (by show oa ≤ 100000;omega)
  have HSS:=Lib.hid fun (w:World) (B b:Nat) (v:Hv) (m:WB w B b v h)=>zstore_any m (oa + 1 + F) x hw16 (by omega) hx
  clear hk hs ho OK hf hn48 hy0
  unfold obV at HST HFI
  simp only at HST HFI
  unfold hpV hpv at HR HTW
  unfold FreshH hpV hpv
  go_enter Tryz.func27,Tryz.ntmps27
  go_wp2_with fail
  go_at_call 73
  refine (HR.out _ (hz.later bX) (hM.later bX)).mono ?_
  rintro e w1 ⟨g,L,N,rfl,hg,hRd,hq,hb_w1⟩
  obtain ⟨hc_w1,hf_w1⟩:=bcell hb_w1;have hz_w1_w_0:w.heap.size < w1.heap.size:=lY hb_w1.size;have hz_w1_w_1:w.heap.size + 1 < w1.heap.size:=lY hb_w1.size;have hs_w1:=hb_w1.size;(try simp only [zZ] at hs_w1)
  have hR:=(B4.new (w.alloc (.cells #[.slice v.A h.ws.length v.ca,.int .i64 h.n,.slice v.U h.us.length v.cu,.slice v.V h.l.length v.cv] 31)) (.slice none 0 0) (.int .i64 0) (.slice none 0 0) (.slice none 0 0) 31).later hb_w1
  simp only [zA] at hR hg
  have hb1:Below w.heap.size w w1:=bX
  have hs1:=hR.lt
  have hg1:=hRd.rd.lt
  obtain ⟨m0,m1,m2,m3⟩:=id hRd.rd.hb
  clear hc_w1 hf_w1
  go_wp2_with fail
  go_at_call 74
  refine (HTW.out _ (hRd.rd.mem.more (by omega))).mono ?_
  rintro e w2 ⟨v2,rfl,oH,hb_w2⟩
  have hR2:=hR.later hb_w2
  have hRd2:=hRd.later hb_w2
  have hb2:Below w.heap.size w w2:=hb1.trans (hb_w2.mono hb1.size)
  have hs2:=hb_w2.size
  have hW:=WB.new oH hb_w2.size 112
  have hb3:Below w2.heap.size w2 (w2.alloc (.cells #[.slice v2.A h.ws.length v2.ca,.int .i64 h.n,.slice v2.U h.us.length v2.cu,.slice v2.V h.l.length v2.cv] 112)):=Below.alloc (Below.refl _ _) (Nat.le_refl _) _
  have hR3:=hR2.later hb3
  have hRd3:=hRd2.later hb3
  have hbb3:Below w.heap.size w (w2.alloc (.cells #[.slice v2.A h.ws.length v2.ca,.int .i64 h.n,.slice v2.U h.us.length v2.cu,.slice v2.V h.l.length v2.cv] 112)):=hb2.alloc hb2.size _
  have hs3:(w2.alloc (.cells #[.slice v2.A h.ws.length v2.ca,.int .i64 h.n,.slice v2.U h.us.length v2.cu,.slice v2.V h.l.length v2.cv] 112)).heap.size=w2.heap.size + 1:=World.size_alloc _ _
  clear hb_w1 hb_w2 m0 m1 m2 m3 hR hRd oH hR2 hRd2 hb1 hb2 hb3
  obtain ⟨c0,c1,c2,c3,f0,f1,f2,f3⟩:=id hW.box
  go_wp2_with fail
  go_at_call 104
  refine (HST.out _ _ _ _ hRd3).mono ?_
  rintro e w5 ⟨rfl,hX5⟩
  have hW5:=hW.grown hX5.grown (by omega)
  have hR5:=hR3.rdx hX5 (by omega)
  have hs5:=hX5.grown.size
  rw [hs3] at hs5
  have hb5:Below w.heap.size w w5:=hX5.below hbb3 hbb3.size (by omega)
  clear c0 c1 c2 c3 f0 f1 f2 f3
  go_wp2_with fail
  go_at_call 103
  refine (HFI.out _).mono ?_
  rintro e w6 ⟨rfl,hb_w6⟩
  have ha5:Below w5.heap.size w5 (w5.alloc (.cells #[.int .u64 oa,.int .i64 on,.int .u64 om,.int .i64 oi,.int .i64 ok,.bool ob] 161)):=Below.alloc (Below.refl _ _) (Nat.le_refl _) _
  have hW6:=(hW5.later ha5).later hb_w6
  have hR6:=(hR5.later ha5).later hb_w6
  have hs6:=hb_w6.size
  rw [World.size_alloc] at hs6
  have hb6:Below w.heap.size w w6:=(hb5.alloc hb5.size _).trans (hb_w6.mono (by rw [World.size_alloc];omega))
  go_wp2_with fail
  go_at_call 105
  refine (HSS.out _ _ _ _ hW6).mono ?_
  rintro e w7 ⟨rfl,⟨v7,hW7,hx7,hy7⟩,hb_w7⟩
  clear hx7 hy7
  have hR7:=hR6.below hb_w7 (by omega)
  have hs7:=hb_w7.size
  have hb7:Below w.heap.size w w7:=hb6.trans (hb_w7.mono (by omega))
  obtain ⟨c0,c1,c2,c3,f0,f1,f2,f3⟩:=id hW7.box
  obtain ⟨r0,r1,r2,r3,z0,z1,z2,z3⟩:=id hR7
  go_wp2
  exact bodyPost_ret (res_hp2 rfl rfl (hR7.all _ _ _ _)) rfl ⟨v7,rfl,(hW7.owns.all (by omega) _ _ _ _).mono (by omega),below_all hb7 (by omega) _ _ _ _⟩
set_option maxHeartbeats 4000000 in
theorem zmarkH_any (hz:Sizes w) (hM:HM w w.heap.size v h) (hl:h.l.length ≤ 17592186044416) (hw:h.ws.length ≤ 17592186044416) (hnil:v.V=none → v.cv=0) (a:Nat) (ha:a < W64) (h':Hp) (b:Bool) (y:Int) (hE:MarE h a h' b y) :
  Calls Tryz.prog 29 #[hpV v h,.int .u64 (a:Nat)] w fun e w'=>FreshHb w h' b y e w':=by
 rcases hE with ⟨hk,rfl,rfl,rfl⟩ | ⟨hk,hy0,he,rfl,rfl⟩ | ⟨hk,hy0,he,rfl,rfl⟩
 ·have HR:=Lib.hid fun (w:World) z m=>zread_bad (w:=w) (v:=v) (h:=h) z m hl hw hk
  clear hk
  unfold hpV hpv at HR
  unfold FreshHb hpV hpv
  go_enter Tryz.func29,Tryz.ntmps29
  go_wp2_with fail
  go_at_call 73
  refine (HR.out _ (hz.later bX) (hM.later bX)).mono ?_
  rintro e w1 ⟨rfl,hb_w1⟩
  obtain ⟨hc_w1,hf_w1⟩:=bcell hb_w1;have hz_w1_w_0:w.heap.size < w1.heap.size:=lY hb_w1.size;have hz_w1_w_1:w.heap.size + 1 < w1.heap.size:=lY hb_w1.size;have hs_w1:=hb_w1.size;(try simp only [zZ] at hs_w1)
  have hR:=(B4.new (w.alloc (.cells #[.slice v.A h.ws.length v.ca,.int .i64 h.n,.slice v.U h.us.length v.cu,.slice v.V h.l.length v.cv] 31)) (.slice none 0 0) (.int .i64 0) (.slice none 0 0) (.slice none 0 0) 31).later hb_w1
  simp only [zA] at hR
  obtain ⟨r0,r1,r2,r3,z0,z1,z2,z3⟩:=id hR
  have hb1:Below w.heap.size w w1:=bX
  clear hc_w1 hf_w1
  go_wp2
  exact bodyPost_ret (res_hp3 rfl rfl (hR.all _ _ _ _)) rfl ⟨hv0,rfl,OwnsH.zero _ _,below_all hb1 (by omega) _ _ _ _⟩
 ·subst h'
  have HR:=Lib.hid fun (w:World) z m=>zread_ok (w:=w) (v:=v) (h:=h) z m hk
  have HTW:=Lib.hid fun (w:World) m=>ztwin_any (w:=w) (v:=v) (h:=h) m hk.framed hnil
  have HFd:=Lib.hid fun (w:World) (g:Nat) (L N:Value) (rr:RdL w g v h L N)=>zfind_rdx w g v h hk L N rr a ha
  have d0:(fnY h a != 0)=true:=by simpa using hy0
  generalize fnY h a=y at *
  generalize fnO h a=o at *
  obtain ⟨oi,ok,oa,on,om,ob,oc⟩:=o
  clear hk hy0
  unfold obV at HFd
  simp only at HFd
  unfold hpV hpv at HR HTW
  unfold FreshHb hpV hpv
  go_enter Tryz.func29,Tryz.ntmps29
  go_wp2_with fail
  go_at_call 73
  refine (HR.out _ (hz.later bX) (hM.later bX)).mono ?_
  rintro e w1 ⟨g,L,N,rfl,hg,hRd,hq,hb_w1⟩
  obtain ⟨hc_w1,hf_w1⟩:=bcell hb_w1;have hz_w1_w_0:w.heap.size < w1.heap.size:=lY hb_w1.size;have hz_w1_w_1:w.heap.size + 1 < w1.heap.size:=lY hb_w1.size;have hs_w1:=hb_w1.size;(try simp only [zZ] at hs_w1)
  have hR:=(B4.new (w.alloc (.cells #[.slice v.A h.ws.length v.ca,.int .i64 h.n,.slice v.U h.us.length v.cu,.slice v.V h.l.length v.cv] 31)) (.slice none 0 0) (.int .i64 0) (.slice none 0 0) (.slice none 0 0) 31).later hb_w1
  simp only [zA] at hR hg
  have hb1:Below w.heap.size w w1:=bX
  have hs1:=hR.lt
  have hg1:=hRd.rd.lt
  obtain ⟨m0,m1,m2,m3⟩:=id hRd.rd.hb
  clear hc_w1 hf_w1
  go_wp2_with fail
  go_at_call 74
  refine (HTW.out _ (hRd.rd.mem.more (by omega))).mono ?_
  rintro e w2 ⟨v2,rfl,oH,hb_w2⟩
  have hR2:=hR.later hb_w2
  have hRd2:=hRd.later hb_w2
  have hb2:Below w.heap.size w w2:=hb1.trans (hb_w2.mono hb1.size)
  have hs2:=hb_w2.size
  have hW:=WB.new oH hb_w2.size 112
  have hb3:Below w2.heap.size w2 (w2.alloc (.cells #[.slice v2.A h.ws.length v2.ca,.int .i64 h.n,.slice v2.U h.us.length v2.cu,.slice v2.V h.l.length v2.cv] 112)):=Below.alloc (Below.refl _ _) (Nat.le_refl _) _
  have hR3:=hR2.later hb3
  have hRd3:=hRd2.later hb3
  have hbb3:Below w.heap.size w (w2.alloc (.cells #[.slice v2.A h.ws.length v2.ca,.int .i64 h.n,.slice v2.U h.us.length v2.cu,.slice v2.V h.l.length v2.cv] 112)):=hb2.alloc hb2.size _
  have hs3:(w2.alloc (.cells #[.slice v2.A h.ws.length v2.ca,.int .i64 h.n,.slice v2.U h.us.length v2.cu,.slice v2.V h.l.length v2.cv] 112)).heap.size=w2.heap.size + 1:=World.size_alloc _ _
  clear hb_w1 hb_w2 m0 m1 m2 m3 hR hRd oH hR2 hRd2 hb1 hb2 hb3
  obtain ⟨c0,c1,c2,c3,f0,f1,f2,f3⟩:=id hW.box
  go_wp2_with fail
  go_at_call 99
  refine (HFd.out _ _ _ _ hRd3).mono ?_
  rintro e w5 ⟨rfl,hX5⟩
  have hW5:=hW.grown hX5.grown (by omega)
  have hR5:=hR3.rdx hX5 (by omega)
  have hs5:=hX5.grown.size
  rw [hs3] at hs5
  have hb5:Below w.heap.size w w5:=hX5.below hbb3 hbb3.size (by omega)
  clear c0 c1 c2 c3 f0 f1 f2 f3
  obtain ⟨c0,c1,c2,c3,f0,f1,f2,f3⟩:=id hW5.box
  obtain ⟨r0,r1,r2,r3,z0,z1,z2,z3⟩:=id hR5
  have hlb:=hW5.lt
  have hlr:=hR5.lt
  go_wp2
  have hq1:=hR5.all (.slice v2.A h.ws.length v2.ca) (.int .i64 h.n) (.slice v2.U h.us.length v2.cu) (.slice v2.V h.l.length v2.cv)
  have hq2:=hW5.owns.all (b:=w.heap.size + 1) (by omega) (.slice v2.A h.ws.length v2.ca) (.int .i64 h.n) (.slice v2.U h.us.length v2.cu) (.slice v2.V h.l.length v2.cv)
  have hq3:=below_all hb5 (b:=w.heap.size + 1) (by omega) (.slice v2.A h.ws.length v2.ca) (.int .i64 h.n) (.slice v2.U h.us.length v2.cu) (.slice v2.V h.l.length v2.cv)
  first
   | exact bodyPost_ret (res_hp3 rfl rfl (hq1.later (Below.alloc (Below.refl _ _) (Nat.le_refl _) _))) rfl ⟨v2,rfl,(hq2.later (Below.alloc (Below.refl _ _) (Nat.le_refl _) _)).mono (by omega),hq3.alloc hq3.size _⟩
   | exact bodyPost_ret (res_hp3 rfl rfl ((hR5.later (Below.alloc (Below.refl _ _) (Nat.le_refl _) _)).all _ _ _ _)) rfl ⟨v2,rfl,((hW5.later (Below.alloc (Below.refl _ _) (Nat.le_refl _) _)).owns.all (b:=w.heap.size + 1) (by omega) _ _ _ _).mono (by omega),below_all (b:=w.heap.size + 1) (hb5.alloc hb5.size _) (by omega) _ _ _ _⟩
 ·subst h'
  have HR:=Lib.hid fun (w:World) z m=>zread_ok (w:=w) (v:=v) (h:=h) z m hk
  have HTW:=Lib.hid fun (w:World) m=>ztwin_any (w:=w) (v:=v) (h:=h) m hk.framed hnil
  have HFd:=Lib.hid fun (w:World) (g:Nat) (L N:Value) (rr:RdL w g v h L N)=>zfind_rdx w g v h hk L N rr a ha
  obtain ⟨OK,hoa⟩:=fnO_shape hk hy0
  rw [hy0] at HFd
  generalize ho:fnO h a=o at *
  have HMK:=Lib.hid fun (w:World) (B b:Nat) (v:Hv) (m:WB w B b v h)=>zmark_any m hk.framed.spans o OK.i OK.k
  have HIL:Hid (0 < h.l.length):=Lib.hid (by have:=OK.i;omega)
  obtain ⟨oi,ok,oa,on,om,ob,oc⟩:=o
  clear hk ho OK hoa hy0
  unfold obV at HFd HMK
  simp only at HFd HMK ⊢
  unfold hpV hpv at HR HTW
  unfold FreshHb hpV hpv
  go_enter Tryz.func29,Tryz.ntmps29
  go_wp2_with fail
  go_at_call 73
  refine (HR.out _ (hz.later bX) (hM.later bX)).mono ?_
  rintro e w1 ⟨g,L,N,rfl,hg,hRd,hq,hb_w1⟩
  obtain ⟨hc_w1,hf_w1⟩:=bcell hb_w1;have hz_w1_w_0:w.heap.size < w1.heap.size:=lY hb_w1.size;have hz_w1_w_1:w.heap.size + 1 < w1.heap.size:=lY hb_w1.size;have hs_w1:=hb_w1.size;(try simp only [zZ] at hs_w1)
  have hR:=(B4.new (w.alloc (.cells #[.slice v.A h.ws.length v.ca,.int .i64 h.n,.slice v.U h.us.length v.cu,.slice v.V h.l.length v.cv] 31)) (.slice none 0 0) (.int .i64 0) (.slice none 0 0) (.slice none 0 0) 31).later hb_w1
  simp only [zA] at hR hg
  have hb1:Below w.heap.size w w1:=bX
  have hs1:=hR.lt
  have hg1:=hRd.rd.lt
  obtain ⟨m0,m1,m2,m3⟩:=id hRd.rd.hb
  clear hc_w1 hf_w1
  go_wp2_with fail
  go_at_call 74
  refine (HTW.out _ (hRd.rd.mem.more (by omega))).mono ?_
  rintro e w2 ⟨v2,rfl,oH,hb_w2⟩
  have hR2:=hR.later hb_w2
  have hRd2:=hRd.later hb_w2
  have hb2:Below w.heap.size w w2:=hb1.trans (hb_w2.mono hb1.size)
  have hs2:=hb_w2.size
  have hW:=WB.new oH hb_w2.size 112
  have hb3:Below w2.heap.size w2 (w2.alloc (.cells #[.slice v2.A h.ws.length v2.ca,.int .i64 h.n,.slice v2.U h.us.length v2.cu,.slice v2.V h.l.length v2.cv] 112)):=Below.alloc (Below.refl _ _) (Nat.le_refl _) _
  have hR3:=hR2.later hb3
  have hRd3:=hRd2.later hb3
  have hbb3:Below w.heap.size w (w2.alloc (.cells #[.slice v2.A h.ws.length v2.ca,.int .i64 h.n,.slice v2.U h.us.length v2.cu,.slice v2.V h.l.length v2.cv] 112)):=hb2.alloc hb2.size _
  have hs3:(w2.alloc (.cells #[.slice v2.A h.ws.length v2.ca,.int .i64 h.n,.slice v2.U h.us.length v2.cu,.slice v2.V h.l.length v2.cv] 112)).heap.size=w2.heap.size + 1:=World.size_alloc _ _
  clear hb_w1 hb_w2 m0 m1 m2 m3 hR hRd oH hR2 hRd2 hb1 hb2 hb3
  obtain ⟨c0,c1,c2,c3,f0,f1,f2,f3⟩:=id hW.box
  go_wp2_with fail
  go_at_call 99
  refine (HFd.out _ _ _ _ hRd3).mono ?_
  rintro e w5 ⟨rfl,hX5⟩
  have hW5:=hW.grown hX5.grown (by omega)
  have hR5:=hR3.rdx hX5 (by omega)
  have hs5:=hX5.grown.size
  rw [hs3] at hs5
  have hb5:Below w.heap.size w w5:=hX5.below hbb3 hbb3.size (by omega)
  clear c0 c1 c2 c3 f0 f1 f2 f3
  have ha5:Below w5.heap.size w5 (w5.alloc (.cells #[.int .u64 oa,.int .i64 on,.int .u64 om,.int .i64 oi,.int .i64 ok,.bool ob] 161)):=Below.alloc (Below.refl _ _) (Nat.le_refl _) _
  have hB6:B6 (w5.alloc (.cells #[.int .u64 oa,.int .i64 on,.int .u64 om,.int .i64 oi,.int .i64 ok,.bool ob] 161)) w5.heap.size ⟨oi,ok,oa,on,om,ob,oc⟩:=B6.new w5 ⟨oi,ok,oa,on,om,ob,oc⟩ _
  have hW6:=hW5.later ha5
  have hR6:=hR5.later ha5
  go_wp2_with fail
  go_at_call 106
  refine (HMK.out _ _ _ _ hW6).mono ?_
  rintro e w7 ⟨rfl,hW7,hb_w7,hg7⟩
  have hR7:=hR6.below hb_w7 (by omega)
  have hB7:B6 w7 w5.heap.size ⟨oi,ok,oa,on,om,ob,oc⟩:=hB6.grown7 (o:=⟨oi,ok,oa,on,om,ob,oc⟩) hW5 HIL.out hg7
  have hs7:=hb_w7.size
  rw [World.size_alloc] at hs7
  have hb7:Below w.heap.size w w7:=(hb5.alloc hb5.size _).trans (hb_w7.mono (by omega))
  obtain ⟨c0,c1,c2,c3,f0,f1,f2,f3⟩:=id hW7.box
  obtain ⟨r0,r1,r2,r3,z0,z1,z2,z3⟩:=id hR7
  have k5:=hB7.c5
  simp only at k5
  go_wp2_with fail
  go_region_with fail
  all_goals
   try simp only [Act.put,qZ]
   go_wp2
   have hF:=(hR7.all (.slice v2.A (marH h oi ok).ws.length v2.ca) (.int .i64 (marH h oi ok).n) (.slice v2.U (marH h oi ok).us.length v2.cu) (.slice v2.V (marH h oi ok).l.length v2.cv)).later (Below.drew (Below.refl _ _))
   have hO:=(hW7.owns.all (b:=w.heap.size + 1) (by omega) (.slice v2.A (marH h oi ok).ws.length v2.ca) (.int .i64 (marH h oi ok).n) (.slice v2.U (marH h oi ok).us.length v2.cu) (.slice v2.V (marH h oi ok).l.length v2.cv)).later (Below.drew (Below.refl _ _))
   have hB:=(below_all hb7 (b:=w.heap.size + 1) (by omega) (.slice v2.A (marH h oi ok).ws.length v2.ca) (.int .i64 (marH h oi ok).n) (.slice v2.U (marH h oi ok).us.length v2.cu) (.slice v2.V (marH h oi ok).l.length v2.cv)).drew
   exact bodyPost_ret (res_hp3 rfl rfl hF) rfl ⟨v2,rfl,hO.mono (by omega),hB⟩
end
def ObjE (h:Hp) (t:List Nat) (y:Int):Prop:=(¬ OkH h∧t=[]∧y=2) ∨ (OkH h∧t=addrs (cursH h)∧y=0)
def FreshW (w:World) (t:List Nat) (y:Int) (e:Ending) (w':World):Prop:=∃ A c,e=.returned (.tuple #[.slice A t.length c,.int .i64 y])∧OwnsN w' w.heap.size A t.length c t∧Below w.heap.size w w'
theorem addrs_word {h:Hp} (hk:OkH h):∀ x ∈ addrs (cursH h),x < W64:=fun x hx=>by
 obtain ⟨o,ho,rfl⟩:=List.mem_map.1 hx
 have h1:=(OkH.ob hk.framed hk.owned hk.filled (cursH_mem ho).1).a1
 have h2:=hk.framed.words
 unfold W64
 omega
section
variable {w:World} {v:Hv} {h:Hp}
set_option maxHeartbeats 4000000 in
theorem zobjH_any (hz:Sizes w) (hM:HM w w.heap.size v h) (hl:h.l.length ≤ 17592186044416) (hw:h.ws.length ≤ 17592186044416) (t:List Nat) (y:Int) (hE:ObjE h t y) :
  Calls Tryz.prog 35 #[hpV v h] w fun e w'=>FreshW w t y e w':=by
 rcases hE with ⟨hk,rfl,rfl⟩ | ⟨hk,rfl,rfl⟩
 ·have HR:=Lib.hid fun (w:World) z m=>zread_bad (w:=w) (v:=v) (h:=h) z m hl hw hk
  clear hk
  unfold hpV hpv at HR
  unfold FreshW hpV hpv
  go_enter Tryz.func35,Tryz.ntmps35
  go_wp2_with (go_at_call 73;refine (HR.out _ (hz.later bX) (hM.later bX)).mono ?_;rintro e w1 ⟨rfl,hb_w1⟩;obtain ⟨hc_w1,hf_w1⟩:=bcell hb_w1;have hz_w1_w_0:w.heap.size < w1.heap.size:=lY hb_w1.size;have hs_w1:=hb_w1.size;(try simp only [zZ] at hs_w1))
  go_ret2
  exact ⟨none,0,rfl,OwnsN.nil _ _,bX⟩
 ·have HR:=Lib.hid fun (w:World) z m=>zread_ok (w:=w) (v:=v) (h:=h) z m hk
  have HOB:=Lib.hid fun (w:World) (g:Nat) (L N:Value) (r:RdL w g v h L N)=>zobjects_any w g v h hk.framed hk.owned hk.filled L N r
  have HAW:=Lib.hid (addrs_word hk)
  have hcl:=cursH_len (h:=h) hk.framed.spans
  obtain ⟨i0,hi,hz0,hz1,hz2⟩:=info_parts info_u64
  have HAL:Hid ((addrs (cursH h)).length=(cursH h).length):=Lib.hid (by simp [addrs])
  unfold Coll at HOB
  generalize ho:cursH h=os at *
  clear hk ho
  unfold hpV hpv at HR
  unfold FreshW hpV hpv
  go_enter Tryz.func35,Tryz.ntmps35
  go_wp2_with fail
  go_at_call 73
  refine (HR.out _ (hz.later bX) (hM.later bX)).mono ?_
  rintro e w1 ⟨g,L,N,rfl,hg,hRd,hq,hb_w1⟩
  obtain ⟨hc_w1,hf_w1⟩:=bcell hb_w1;have hz_w1_w_0:w.heap.size < w1.heap.size:=lY hb_w1.size;have hs_w1:=hb_w1.size;(try simp only [zZ] at hs_w1)
  have hb1:Below w.heap.size w w1:=bX
  have hs1:=hb1.size
  simp only [zA] at hg
  clear hc_w1 hf_w1
  go_wp2_with fail
  go_at_call 113
  refine (HOB.out _ _ _ _ hRd).mono ?_
  rintro e w2 ⟨L2,N2,rfl,_,⟨A2,cl2,bn,rfl,hLR,_⟩,_,hg2⟩
  have hb2:Below w.heap.size w w2:=hb1.grown hg2 hs1 (fun k hk=>by injection hk with hk;omega)
  have hs2:=hb2.size
  clear hb1 hRd hg2 hb_w1
  go_wp2_with fail
  go_loopw [6,20] (fun tv ii wr=>∃ (k:Nat) (Al:Option Addr) (cl:Nat),ii=.int .i64 (k:Nat)∧k ≤ os.length∧tv=.slice Al k cl∧OwnsN wr w2.heap.size Al k cl (addrs (os.take k))∧Below w2.heap.size w2 wr) (fun tv ii _=>os.length - (intOf ii).toNat)
  case atStart=>exact ⟨0,none,0,rfl,Nat.zero_le _,rfl,OwnsN.nil _ _,Below.refl _ _⟩
  case round=>
   obtain ⟨k,Al,cl,rfl,hk,rfl,hO,hbr⟩:=hrel
   have hsr:=hbr.size
   by_cases hlt:k < os.length
   ·rcases hLR with ⟨_,h0⟩ | ⟨b,off,rfl,hbg,hbl,hcs⟩
    ·omega
    obtain ⟨o,ho⟩:∃ o,Hid (os[k]=o):=⟨os[k],Lib.hid rfl⟩
    have hcell:∀ j (hj:j < 6) (u:Value),(cells6 o)[j]?=some u → wr.cell? ⟨b,off + k * 6 + j,none⟩=some u:=fun j hj u hu=>by
     refine (hbr.cell (p:=⟨b,_,none⟩) hbl).trans ?_
     rw [Nat.add_assoc]
     refine hcs _ u ?_
     rw [flat6_at _ _ _ hj,List.getElem?_eq_getElem hlt,ho.out]
     exact hu
    have q0:=hcell 0 (by omega) _ rfl
    have q1:=hcell 1 (by omega) _ rfl
    have q2:=hcell 2 (by omega) _ rfl
    have q3:=hcell 3 (by omega) _ rfl
    have q4:=hcell 4 (by omega) _ rfl
    have q5:=hcell 5 (by omega) _ rfl
    rw [Nat.add_zero] at q0
    have hnew:Hid (addrs (os.take (k + 1))=addrs (os.take k) ++ [o.a]):=Lib.hid (by
     unfold addrs
     rw [List.take_add_one,List.getElem?_eq_getElem hlt,ho.out]
     simp)
    have haw:o.a < W64:=HAW.out _ (by unfold addrs;rw [List.mem_map];exact ⟨o,by rw [← ho.out];exact List.getElem_mem hlt,rfl⟩)
    have HO:=Lib.hid hO
    have HB:=Lib.hid hbr
    have hrow:∀ W',Below wr.heap.size wr W' → W'.ownsRow w2.heap.size 32 1 (.slice Al k cl) k (vals (addrs (os.take k))):=fun W' hb=>owns_laterN hO.row_ hb
    have HROW:=Lib.hid hrow
    have hlw:∀ q,(Value.slice Al k cl).ownBlock=some q → w2.heap.size ≤ q:=fun q hq=>(hO.row_.lt q hq).1
    have HLW:=Lib.hid hlw
    clear hcell hcs hO hbr hrow hlw
    have j0:(0:Int) ≤ (k:Int):=by omega
    have j1:(k:Int) < (os.length:Int):=by omega
    go_wp2_with (at_builtin;refine wpList_append_lies _ ?_ (.tmp 24) (.tmp 27) 22 ?_ w2.heap.size 32 i0 _ 1 8 Tryz.underlying22 hi hz0 hz1 hz2 rfl (by omega) (.slice Al k cl) k (vals (addrs (os.take k))) ?_ (HROW.out _ bX) ⟨wr.heap.size + 1,0,none⟩ 1 1 (vals [o.a]) ?_ rfl ?_ (vals_one _) (by omega) (by unfold maxLen;omega) (by omega) (by simp only [zA];omega) _ rfl ?_;rfl;rfl;rfl;rfl;(intro j u hj;rw [add_form];have hj0:j=0:=(by have:=(List.getElem?_eq_some_iff.1 hj).1;simpa [vals] using this);subst hj0;have hu:u=.int .u64 (o.a:Nat):=(by simpa [vals] using hj.symm);subst hu;simp [go_sem]);intro g9 cap9 w9 hown9 hg9 hat9 hlt9)
    have ho9:w9.ownsRow w2.heap.size 32 1 (.slice (some ⟨g9,0,none⟩) (k + 1) cap9) (k + 1) (vals (addrs (os.take (k + 1)))):=by
     rw [hnew.out]
     have e:vals (addrs (os.take k) ++ [o.a])=vals (addrs (os.take k)) ++ vals [o.a]:=by simp [vals]
     rw [e]
     exact hown9
    have hO9:OwnsN w9 w2.heap.size (some ⟨g9,0,none⟩) (k + 1) cap9 (addrs (os.take (k + 1))):=⟨by simp [addrs];omega,fun x hx=>HAW.out x (by
     unfold addrs at hx ⊢
     exact List.mem_of_mem_take (by rwa [List.map_take] at hx)),ho9⟩
    have hb9:Below w2.heap.size w2 w9:=Below.grown (w:=(wr.alloc _).alloc _) (HB.out.alloc hsr _ |>.alloc (by rw [World.size_alloc];omega) _) hg9 (by simp only [zA];omega) (fun q hq=>HLW.out q (by first | exact hq | exact hq.symm))
    exact ⟨⟨k + 1,_,_,by go_num,by omega,rfl,hO9,hb9⟩,by simp [intOf];omega⟩
   ·obtain rfl:k=os.length:=by omega
    rw [List.take_length] at hO
    have hbf:Below w.heap.size w wr:=hb2.trans (hbr.mono hs2)
    have HOF:=Lib.hid (hO.mono hs2)
    have HAL2:=HAL.out
    go_wp2
    go_ret2
    exact ⟨Al,cl,by rw [HAL2];rfl,by rw [HAL2];exact HOF.out,hbf⟩
end
def FreshT (w:World) (n:Int) (ws:List Nat) (i why:Int) (e:Ending) (w':World):Prop:=
 ∃ A cap,e=.returned (.tuple #[.agg #[.int .i64 n,.slice A ws.length cap],.int .i64 i,.int .i64 why])∧Own w' w.heap.size A ws∧Below w.heap.size w w'
section
variable {n:Int} {A:Option Addr} {ws:List Nat} {w:World} (cap:Nat)
theorem take_out (c:Int) (hr:Row w w.heap.size A ws) (h:Right n ws) (hc:c < 1) :
  Calls Tryz.prog 89 #[.agg #[.int .i64 n,.slice A ws.length cap],.int .i64 c] w fun e w'=>FreshT w n ws 0 1 e w':=by
 have hR:=Lib.hid h
 clear h
 go_enter Tryz.func89,Tryz.ntmps89
 go_wp2_with fail
 go_at_call 138
 refine (pview_ok _ (hr.later bX) hR.out).mono ?_
 rintro e w1 ⟨rfl,hb_w1⟩
 obtain ⟨hc_w1,hf_w1⟩:=bcell hb_w1;have hz_w1_w_0:w.heap.size < w1.heap.size:=lY hb_w1.size;have hz_w1_w_1:w.heap.size + 1 < w1.heap.size:=lY hb_w1.size;have hs_w1:=hb_w1.size;(try simp only [zZ] at hs_w1)
 go_wp2_with fail
 go_at_call 170
 refine (run_out cap c (hr.later bX) hR.out hc).mono ?_
 rintro e w2 ⟨rfl,hb_w2⟩
 obtain ⟨hc_w2,hf_w2⟩:=bcell hb_w2;have hz_w2_w_0:w.heap.size < w2.heap.size:=lY hb_w2.size;have hz_w2_w_1:w.heap.size + 1 < w2.heap.size:=lY hb_w2.size;have hz_w2_w1_0:w1.heap.size < w2.heap.size:=lY hb_w2.size;have hs_w2:=hb_w2.size;(try simp only [zZ] at hs_w2)
 go_wp2_with fail
 go_at_call 171
 refine (ptwin_ok cap (hr.later bX) hR.out).mono ?_
 rintro e w3 ⟨A3,cap3,rfl,ho3,hb_w3⟩
 obtain ⟨hc_w3,hf_w3⟩:=bcell hb_w3;have hz_w3_w_0:w.heap.size < w3.heap.size:=lY hb_w3.size;have hz_w3_w_1:w.heap.size + 1 < w3.heap.size:=lY hb_w3.size;have hz_w3_w1_0:w1.heap.size < w3.heap.size:=lY hb_w3.size;have hs_w3:=hb_w3.size;(try simp only [zZ] at hs_w3)
 go_wp2
 have k0:w3.cell? ⟨w.heap.size + 1,0,none⟩=_:=(hc_w3 _ _ lX).trans ((hc_w2 _ _ lX).trans ((World.cell?_alloc_lt _ _ ⟨_,_,_⟩ lX).trans ((hc_w1 _ _ lX).trans (by simp [go_sem];rfl))))
 have k1:w3.cell? ⟨w.heap.size + 1,1,none⟩=_:=(hc_w3 _ _ lX).trans ((hc_w2 _ _ lX).trans ((World.cell?_alloc_lt _ _ ⟨_,_,_⟩ lX).trans ((hc_w1 _ _ lX).trans (by simp [go_sem];rfl))))
 exact bodyPost_ret (res_pages3 rfl rfl (set_two _ _ k0 k1).1 (set_two _ _ k0 k1).2) rfl ⟨A3,cap3,rfl,(ho3.two (g:=w.heap.size + 1) lX).mono lX,bX⟩
theorem take_full (c:Int) (hr:Row w w.heap.size A ws) (h:Right n ws) (hc:1 ≤ c) (h63:c ≤ 9223372036854775807) (hp:RunP ws c n 0 3) :
  Calls Tryz.prog 89 #[.agg #[.int .i64 n,.slice A ws.length cap],.int .i64 c] w fun e w'=>FreshT w n ws 0 6 e w':=by
 have hR:=Lib.hid h
 have hP:=Lib.hid hp
 clear h hp
 go_enter Tryz.func89,Tryz.ntmps89
 go_wp2_with fail
 go_at_call 138
 refine (pview_ok _ (hr.later bX) hR.out).mono ?_
 rintro e w1 ⟨rfl,hb_w1⟩
 obtain ⟨hc_w1,hf_w1⟩:=bcell hb_w1;have hz_w1_w_0:w.heap.size < w1.heap.size:=lY hb_w1.size;have hz_w1_w_1:w.heap.size + 1 < w1.heap.size:=lY hb_w1.size;have hs_w1:=hb_w1.size;(try simp only [zZ] at hs_w1)
 go_wp2_with fail
 go_at_call 170
 refine (bits_run_in cap c (hr.later bX) hR.out hc h63).mono ?_
 rintro e w2 ⟨h2,hb_w2⟩
 obtain ⟨hc_w2,hf_w2⟩:=bcell hb_w2;have hz_w2_w_0:w.heap.size < w2.heap.size:=lY hb_w2.size;have hz_w2_w_1:w.heap.size + 1 < w2.heap.size:=lY hb_w2.size;have hz_w2_w1_0:w1.heap.size < w2.heap.size:=lY hb_w2.size;have hs_w2:=hb_w2.size;(try simp only [zZ] at hs_w2)
 rw [h2.is (fun i why h=>h.one hP.out)]
 clear h2
 go_wp2_with fail
 go_at_call 171
 refine (ptwin_ok cap (hr.later bX) hR.out).mono ?_
 rintro e w3 ⟨A3,cap3,rfl,ho3,hb_w3⟩
 obtain ⟨hc_w3,hf_w3⟩:=bcell hb_w3;have hz_w3_w_0:w.heap.size < w3.heap.size:=lY hb_w3.size;have hz_w3_w_1:w.heap.size + 1 < w3.heap.size:=lY hb_w3.size;have hz_w3_w1_0:w1.heap.size < w3.heap.size:=lY hb_w3.size;have hs_w3:=hb_w3.size;(try simp only [zZ] at hs_w3)
 go_wp2
 have k0:w3.cell? ⟨w.heap.size + 1,0,none⟩=_:=(hc_w3 _ _ lX).trans ((hc_w2 _ _ lX).trans ((World.cell?_alloc_lt _ _ ⟨_,_,_⟩ lX).trans ((hc_w1 _ _ lX).trans (by simp [go_sem];rfl))))
 have k1:w3.cell? ⟨w.heap.size + 1,1,none⟩=_:=(hc_w3 _ _ lX).trans ((hc_w2 _ _ lX).trans ((World.cell?_alloc_lt _ _ ⟨_,_,_⟩ lX).trans ((hc_w1 _ _ lX).trans (by simp [go_sem];rfl))))
 exact bodyPost_ret (res_pages3 rfl rfl (set_two _ _ k0 k1).1 (set_two _ _ k0 k1).2) rfl ⟨A3,cap3,rfl,(ho3.two (g:=w.heap.size + 1) lX).mono lX,bX⟩
theorem take_fit (c i:Int) (hr:Row w w.heap.size A ws) (h:Right n ws) (hc:1 ≤ c) (h63:c ≤ 9223372036854775807) (hp:RunP ws c n i 0) :
  Calls Tryz.prog 89 #[.agg #[.int .i64 n,.slice A ws.length cap],.int .i64 c] w fun e w'=>FreshT w n (fillW ws i.toNat c.toNat true) i 0 e w':=by
 have hi:0 ≤ i∧i + c ≤ n:=by
  rcases hp.fit hc with ⟨_,h1,h2,_⟩ | ⟨h1,_⟩
  ·exact ⟨h1,h2⟩
  ·cases h1
 have hR:=Lib.hid h
 have hP:=Lib.hid hp
 have hI:=Lib.hid hi
 clear h hp hi
 go_enter Tryz.func89,Tryz.ntmps89
 go_wp2_with fail
 go_at_call 138
 refine (pview_ok _ (hr.later bX) hR.out).mono ?_
 rintro e w1 ⟨rfl,hb_w1⟩
 obtain ⟨hc_w1,hf_w1⟩:=bcell hb_w1;have hz_w1_w_0:w.heap.size < w1.heap.size:=lY hb_w1.size;have hz_w1_w_1:w.heap.size + 1 < w1.heap.size:=lY hb_w1.size;have hs_w1:=hb_w1.size;(try simp only [zZ] at hs_w1)
 go_wp2_with fail
 go_at_call 170
 refine (bits_run_in cap c (hr.later bX) hR.out hc h63).mono ?_
 rintro e w2 ⟨h2,hb_w2⟩
 obtain ⟨hc_w2,hf_w2⟩:=bcell hb_w2;have hz_w2_w_0:w.heap.size < w2.heap.size:=lY hb_w2.size;have hz_w2_w_1:w.heap.size + 1 < w2.heap.size:=lY hb_w2.size;have hz_w2_w1_0:w1.heap.size < w2.heap.size:=lY hb_w2.size;have hs_w2:=hb_w2.size;(try simp only [zZ] at hs_w2)
 rw [h2.is (fun i why h=>h.one hP.out)]
 clear h2
 go_wp2_with fail
 go_at_call 172
 refine (marked_in cap i c true (hr.later bX) hR.out hI.out.1 (by omega) (by have:=hI.out.2;omega)).mono ?_
 rintro e w3 ⟨A3,cap3,rfl,ho3,hb_w3⟩
 obtain ⟨hc_w3,hf_w3⟩:=bcell hb_w3;have hz_w3_w_0:w.heap.size < w3.heap.size:=lY hb_w3.size;have hz_w3_w_1:w.heap.size + 1 < w3.heap.size:=lY hb_w3.size;have hz_w3_w1_0:w1.heap.size < w3.heap.size:=lY hb_w3.size;have hs_w3:=hb_w3.size;(try simp only [zZ] at hs_w3)
 go_wp2
 have k0:w3.cell? ⟨w.heap.size + 1,0,none⟩=_:=(hc_w3 _ _ lX).trans ((hc_w2 _ _ lX).trans ((World.cell?_alloc_lt _ _ ⟨_,_,_⟩ lX).trans ((hc_w1 _ _ lX).trans (by simp [go_sem];rfl))))
 have k1:w3.cell? ⟨w.heap.size + 1,1,none⟩=_:=(hc_w3 _ _ lX).trans ((hc_w2 _ _ lX).trans ((World.cell?_alloc_lt _ _ ⟨_,_,_⟩ lX).trans ((hc_w1 _ _ lX).trans (by simp [go_sem];rfl))))
 exact bodyPost_ret (res_pages3 rfl rfl (set_two _ _ k0 k1).1 (set_two _ _ k0 k1).2) rfl ⟨A3,cap3,rfl,(ho3.two (g:=w.heap.size + 1) lX).mono lX,bX⟩
theorem give_state (a c:Int) (hr:Row w w.heap.size A ws) (h:Right n ws) (h0:0 ≤ a) (h1:1 ≤ c) (h2:c ≤ n - a) (hi:∃ j:Nat,a ≤ j∧(j:Int) < a + c∧tb ws j=false) :
  Calls Tryz.prog 244 #[.agg #[.int .i64 n,.slice A ws.length cap],.int .i64 a,.int .i64 c] w fun e w'=>Fresh w n ws 5 e w':=by
 have hn:=h.1
 have hn2:=h.2.1
 have hR:=Lib.hid h
 have hI:decide (0 ≤ a∧1 ≤ c∧c ≤ n - a)=true:=decide_eq_true ⟨h0,h1,h2⟩
 have hX:=Lib.hid hi
 clear h hi
 go_enter Tryz.func244,Tryz.ntmps244
 go_wp2_with fail
 go_at_call 138
 refine (pview_ok _ (hr.later bX) hR.out).mono ?_
 rintro e w1 ⟨rfl,hb_w1⟩
 obtain ⟨hc_w1,hf_w1⟩:=bcell hb_w1;have hz_w1_w_0:w.heap.size < w1.heap.size:=lY hb_w1.size;have hz_w1_w_1:w.heap.size + 1 < w1.heap.size:=lY hb_w1.size;have hs_w1:=hb_w1.size;(try simp only [zZ] at hs_w1)
 go_wp2_with fail
 go_at_call 269
 refine (phas_any cap ws.length a c hn hn2 (by omega)).mono ?_
 rintro e w2 ⟨rfl,hb_w2⟩
 obtain ⟨hc_w2,hf_w2⟩:=bcell hb_w2;have hz_w2_w_0:w.heap.size < w2.heap.size:=lY hb_w2.size;have hz_w2_w_1:w.heap.size + 1 < w2.heap.size:=lY hb_w2.size;have hz_w2_w1_0:w1.heap.size < w2.heap.size:=lY hb_w2.size;have hs_w2:=hb_w2.size;(try simp only [zZ] at hs_w2)
 rw [hI]
 go_wp2_with fail
 go_at_call 139
 refine (pnext_any cap a false (hr.later bX) hR.out h0 (by omega)).mono ?_
 rintro e w3 ⟨h3,hb_w3⟩
 obtain ⟨hc_w3,hf_w3⟩:=bcell hb_w3;have hz_w3_w_0:w.heap.size < w3.heap.size:=lY hb_w3.size;have hz_w3_w_1:w.heap.size + 1 < w3.heap.size:=lY hb_w3.size;have hz_w3_w1_0:w1.heap.size < w3.heap.size:=lY hb_w3.size;have hs_w3:=hb_w3.size;(try simp only [zZ] at hs_w3)
 obtain ⟨t,rfl,t1,t2,t3,t4⟩:=h3
 have ht:t < a + c:=by
  obtain ⟨j,j1,j2,j3⟩:=hX.out
  by_cases e:t < a + c
  ·exact e
  ·exact absurd j3 (t3 j j1 (by omega))
 clear t3 t4
 have hd:decide (t < a + c)=true:=by simpa using ht
 go_wp2_with fail
 go_at_call 171
 refine (ptwin_ok cap (hr.later bX) hR.out).mono ?_
 rintro e w4 ⟨A4,cap4,rfl,ho4,hb_w4⟩
 obtain ⟨hc_w4,hf_w4⟩:=bcell hb_w4;have hz_w4_w_0:w.heap.size < w4.heap.size:=lY hb_w4.size;have hz_w4_w_1:w.heap.size + 1 < w4.heap.size:=lY hb_w4.size;have hz_w4_w1_0:w1.heap.size < w4.heap.size:=lY hb_w4.size;have hs_w4:=hb_w4.size;(try simp only [zZ] at hs_w4)
 go_wp2
 have k0:w4.cell? ⟨w.heap.size + 1,0,none⟩=_:=(hc_w4 _ _ lX).trans ((hc_w3 _ _ lX).trans ((hc_w2 _ _ lX).trans ((World.cell?_alloc_lt _ _ ⟨_,_,_⟩ lX).trans ((hc_w1 _ _ lX).trans (by simp [go_sem];rfl)))))
 have k1:w4.cell? ⟨w.heap.size + 1,1,none⟩=_:=(hc_w4 _ _ lX).trans ((hc_w3 _ _ lX).trans ((hc_w2 _ _ lX).trans ((World.cell?_alloc_lt _ _ ⟨_,_,_⟩ lX).trans ((hc_w1 _ _ lX).trans (by simp [go_sem];rfl)))))
 exact bodyPost_ret (res_pages2 rfl rfl (set_two _ _ k0 k1).1 (set_two _ _ k0 k1).2) rfl ⟨A4,cap4,rfl,(ho4.two (g:=w.heap.size + 1) lX).mono lX,bX⟩
theorem give_ok (a c:Int) (hr:Row w w.heap.size A ws) (h:Right n ws) (h0:0 ≤ a) (h1:1 ≤ c) (h2:c ≤ n - a) (hi:∀ j:Nat,a ≤ j → (j:Int) < a + c → tb ws j=true) :
  Calls Tryz.prog 244 #[.agg #[.int .i64 n,.slice A ws.length cap],.int .i64 a,.int .i64 c] w fun e w'=>Fresh w n (fillW ws a.toNat c.toNat false) 0 e w':=by
 have hn:=h.1
 have hn2:=h.2.1
 have hR:=Lib.hid h
 have hI:decide (0 ≤ a∧1 ≤ c∧c ≤ n - a)=true:=decide_eq_true ⟨h0,h1,h2⟩
 have hX:=Lib.hid hi
 clear h hi
 go_enter Tryz.func244,Tryz.ntmps244
 go_wp2_with fail
 go_at_call 138
 refine (pview_ok _ (hr.later bX) hR.out).mono ?_
 rintro e w1 ⟨rfl,hb_w1⟩
 obtain ⟨hc_w1,hf_w1⟩:=bcell hb_w1;have hz_w1_w_0:w.heap.size < w1.heap.size:=lY hb_w1.size;have hz_w1_w_1:w.heap.size + 1 < w1.heap.size:=lY hb_w1.size;have hs_w1:=hb_w1.size;(try simp only [zZ] at hs_w1)
 go_wp2_with fail
 go_at_call 269
 refine (phas_any cap ws.length a c hn hn2 (by omega)).mono ?_
 rintro e w2 ⟨rfl,hb_w2⟩
 obtain ⟨hc_w2,hf_w2⟩:=bcell hb_w2;have hz_w2_w_0:w.heap.size < w2.heap.size:=lY hb_w2.size;have hz_w2_w_1:w.heap.size + 1 < w2.heap.size:=lY hb_w2.size;have hz_w2_w1_0:w1.heap.size < w2.heap.size:=lY hb_w2.size;have hs_w2:=hb_w2.size;(try simp only [zZ] at hs_w2)
 rw [hI]
 go_wp2_with fail
 go_at_call 139
 refine (pnext_any cap a false (hr.later bX) hR.out h0 (by omega)).mono ?_
 rintro e w3 ⟨h3,hb_w3⟩
 obtain ⟨hc_w3,hf_w3⟩:=bcell hb_w3;have hz_w3_w_0:w.heap.size < w3.heap.size:=lY hb_w3.size;have hz_w3_w_1:w.heap.size + 1 < w3.heap.size:=lY hb_w3.size;have hz_w3_w1_0:w1.heap.size < w3.heap.size:=lY hb_w3.size;have hs_w3:=hb_w3.size;(try simp only [zZ] at hs_w3)
 obtain ⟨t,rfl,t1,t2,t3,t4⟩:=h3
 have ht:¬ t < a + c:=by
  intro e
  have:=hX.out t.toNat (by omega) (by omega)
  rw [t4 (by omega)] at this
  cases this
 clear t3 t4
 have hd:decide (t < a + c)=false:=by simpa using ht
 go_wp2_with fail
 go_at_call 172
 refine (marked_in cap a c false (hr.later bX) hR.out h0 (by omega) h2).mono ?_
 rintro e w4 ⟨A4,cap4,rfl,ho4,hb_w4⟩
 obtain ⟨hc_w4,hf_w4⟩:=bcell hb_w4;have hz_w4_w_0:w.heap.size < w4.heap.size:=lY hb_w4.size;have hz_w4_w_1:w.heap.size + 1 < w4.heap.size:=lY hb_w4.size;have hz_w4_w1_0:w1.heap.size < w4.heap.size:=lY hb_w4.size;have hs_w4:=hb_w4.size;(try simp only [zZ] at hs_w4)
 go_wp2
 have k0:w4.cell? ⟨w.heap.size + 1,0,none⟩=_:=(hc_w4 _ _ lX).trans ((hc_w3 _ _ lX).trans ((hc_w2 _ _ lX).trans ((World.cell?_alloc_lt _ _ ⟨_,_,_⟩ lX).trans ((hc_w1 _ _ lX).trans (by simp [go_sem];rfl)))))
 have k1:w4.cell? ⟨w.heap.size + 1,1,none⟩=_:=(hc_w4 _ _ lX).trans ((hc_w3 _ _ lX).trans ((hc_w2 _ _ lX).trans ((World.cell?_alloc_lt _ _ ⟨_,_,_⟩ lX).trans ((hc_w1 _ _ lX).trans (by simp [go_sem];rfl)))))
 exact bodyPost_ret (res_pages2 rfl rfl (set_two _ _ k0 k1).1 (set_two _ _ k0 k1).2) rfl ⟨A4,cap4,rfl,(ho4.two (g:=w.heap.size + 1) lX).mono lX,bX⟩
end
def mkH (n:Int):Hp:=⟨List.replicate (n * 16).toNat 0,n,fillW (wordsN n) 0 1 true,[]⟩
def MakE (n:Int) (h:Hp) (y:Int):Prop:=(¬ (1 ≤ n∧n ≤ 1024)∧h=hp0∧y=1) ∨ ((1 ≤ n∧n ≤ 1024)∧h=mkH n∧y=0)
theorem mk_run {n:Int} (h1:1 ≤ n):RunP (wordsN n) 1 n 0 0:=by
 refine .inl ⟨rfl,0,by omega,?_,fun j hj=>?_,by omega⟩
 ·simp [zs,wordsN,tb_zeros]
 ·obtain rfl:j=0:=by omega
  simp [zs]
theorem getD_zeros (k i:Nat):(List.replicate k 0).getD i 0=0:=by
 rw [List.getD_eq_getElem?_getD]
 by_cases h:i < k
 ·rw [List.getElem?_replicate,if_pos h];rfl
 ·rw [List.getElem?_replicate,if_neg h];rfl
theorem mkH_ok {n:Int} (h1:1 ≤ n) (h2:n ≤ 1024):OkH (mkH n):=by
 have hr:Right n (fillW (wordsN n) 0 1 true):=right_fillW (right_wordsN n (by omega) (by omega)) 0 1 true (by omega)
 have hl:(wordsN n).length=((n + 63) / 64).toNat:=by simp [wordsN]
 have htb:∀ i,tb (fillW (wordsN n) 0 1 true) i=decide (i=0):=fun i=>by
  rw [tb_fillW _ _ _ _ _ (by rw [hl];omega)]
  by_cases e:i=0
  ·rw [if_pos (by omega),e];rfl
  ·rw [if_neg (by omega)]
   simp [wordsN,tb_zeros,e]
 have hF:Framed (mkH n):=⟨by simp [mkH];omega,hr,(⟨by simp,fun i hi=>by simp at hi,fun i hi=>by simp at hi⟩:OkL []),by show 0 < n;omega,by simp [mkH];omega⟩
 refine ⟨hF,⟨fun j hj=>by simp [mkH] at hj,fun i hi=>?_⟩,⟨fun i hi hz q hq=>getD_zeros _ _,fun j hj=>by simp [mkH] at hj⟩,?_⟩
 ·show tb (fillW (wordsN n) 0 1 true) i=true ↔ _
  rw [htb]
  unfold Has
  simp [mkH]
 ·exact (linked_iff hF.spans).2 fun j k hj=>by simp [mkH] at hj
set_option maxHeartbeats 2000000 in
theorem zmakeH_any (w:World) (n:Int) (h':Hp) (y:Int) (hE:MakE n h' y):Calls Tryz.prog 17 #[.int .i64 n] w fun e w'=>FreshH w h' y e w':=by
 have hR0:=B4.new w (.slice none 0 0) (.int .i64 0) (.slice none 0 0) (.slice none 0 0) 31
 rcases hE with ⟨hn,rfl,rfl⟩ | ⟨⟨h1,h2⟩,rfl,rfl⟩
 ·unfold FreshH hpV hpv
  by_cases h1:n < 1
  ·have d1:decide (n < 1)=true:=decide_eq_true h1
   clear hn h1
   go_enter Tryz.func17,Tryz.ntmps17
   go_wp2
   exact bodyPost_ret (res_hp2 rfl rfl hR0) rfl ⟨hv0,rfl,OwnsH.zero _ _,bX⟩
  ·have d1:decide (n < 1)=false:=decide_eq_false h1
   have d2:decide (1024 < n)=true:=decide_eq_true (by omega)
   clear hn h1
   go_enter Tryz.func17,Tryz.ntmps17
   go_wp2
   exact bodyPost_ret (res_hp2 rfl rfl hR0) rfl ⟨hv0,rfl,OwnsH.zero _ _,bX⟩
 ·have d1:decide (n < 1)=false:=decide_eq_false (by omega)
  have d2:decide (1024 < n)=false:=decide_eq_false (by omega)
  have hwm:IntKind.i64.wrap (n * 16)=n * 16:=by rw [IntKind.wrap_i64];omega
  have HA:=Lib.hid fun (w:World)=>amake_ok (n * 16) w (by omega) (by omega)
  have HP:=Lib.hid fun (w:World)=>pmake_ok n w (by omega) (by omega)
  have HT:=Lib.hid fun (w:World) (A:Option Addr) (cap:Nat) (hr:Row w w.heap.size A (wordsN n))=>take_fit (w:=w) (n:=n) (A:=A) (ws:=wordsN n) cap 1 0 hr (right_wordsN n (by omega) (by omega)) (by omega) (by omega) (mk_run h1)
  unfold FreshA at HA
  unfold Fresh at HP
  unfold FreshT at HT
  obtain ⟨z,hz⟩:∃ z,Hid (List.replicate (n * 16).toNat 0=z):=⟨_,Lib.hid rfl⟩
  obtain ⟨p,hp⟩:∃ p,Hid (wordsN n=p):=⟨_,Lib.hid rfl⟩
  unfold FreshH hpV hpv mkH
  simp only
  rw [hz.out] at HA ⊢
  rw [hp.out] at HP HT ⊢
  clear h1 h2
  go_enter Tryz.func17,Tryz.ntmps17
  go_wp2_with fail
  try simp only [hwm]
  go_at_call 87
  refine (HA.out _).mono ?_
  rintro e w1 ⟨A1,c1,rfl,⟨oA,_⟩,hb_w1⟩
  have hR1:=hR0.later hb_w1
  have hb1:Below w.heap.size w w1:=bX
  have hs1:=hb_w1.size
  rw [World.size_alloc] at hs1
  go_wp2_with fail
  go_at_call 88
  refine (HP.out _).mono ?_
  rintro e w2 ⟨P2,c2,rfl,oP,hb_w2⟩
  have hA0:(w1.alloc (.cells #[.slice A1 z.length c1] 24)).cell? ⟨w1.heap.size,0,none⟩=some (.slice A1 z.length c1):=by simp [go_sem]
  have ha1:Below w1.heap.size w1 (w1.alloc (.cells #[.slice A1 z.length c1] 24)):=Below.alloc (Below.refl _ _) (Nat.le_refl _) _
  have hR2:=(hR1.later ha1).later hb_w2
  have oA2:=(oA.later ha1).later hb_w2
  have hA2:w2.cell? ⟨w1.heap.size,0,none⟩=some (.slice A1 z.length c1):=(hb_w2.cell (p:=⟨w1.heap.size,0,none⟩) (by rw [World.size_alloc];exact Nat.lt_succ_self _)).trans hA0
  have hs2:=hb_w2.size
  rw [World.size_alloc] at hs2
  have hb2:Below w.heap.size w w2:=(hb1.alloc hb1.size _).trans (hb_w2.mono (by rw [World.size_alloc];omega))
  have hl12:w1.heap.size < w2.heap.size:=by omega
  have hApA:=oA2.apt_lt (b:=w2.heap.size) (Nat.le_refl _)
  have ha2:Below w2.heap.size w2 (w2.alloc (.cells #[.int .i64 n,.slice P2 p.length c2] 28)):=Below.alloc (Below.refl _ _) (Nat.le_refl _) _
  have hP2:=Two.new w2 (.int .i64 n) (.slice P2 p.length c2) 28
  clear hb_w1 hb_w2 oA hR1 hA0 ha1 hb1
  go_wp2_with fail
  go_at_call 89
  refine (HT.out _ _ _ (oP.row.later ha2)).mono ?_
  rintro e w3 ⟨P3,c3,rfl,oP3,hb_w3⟩
  have hR3:=(hR2.later ha2).later hb_w3
  have oA3:=(oA2.later ha2).later hb_w3
  have hA3:w3.cell? ⟨w1.heap.size,0,none⟩=some (.slice A1 z.length c1):=(hb_w3.cell (p:=⟨w1.heap.size,0,none⟩) (by rw [World.size_alloc];exact Nat.lt_succ_of_lt hl12)).trans ((ha2.cell (p:=⟨w1.heap.size,0,none⟩) hl12).trans hA2)
  have hP3:=hP2.below hb_w3 (by rw [World.size_alloc];exact Nat.lt_succ_self _)
  have hlA:=World.block_lt_of_cell? _ _ hA2
  have hlR:=hR2.lt
  have hs3:=hb_w3.size
  rw [World.size_alloc] at hs3
  have hb3:Below w.heap.size w w3:=(hb2.alloc hb2.size _).trans (hb_w3.mono (by rw [World.size_alloc];have:=hb2.size;omega))
  have hlen:(fillW p (Int.toNat 0) (Int.toNat 1) true).length=p.length:=length_fillW _ _ _ _
  rw [hlen]
  obtain ⟨p0,p1,pf⟩:=id hP3
  have pf0:=pf 0
  have pf1:=pf 1
  have hR4:=(hR3.far (p:=⟨w2.heap.size,0,none⟩) (by show w2.heap.size ≠ w.heap.size;omega) (.int .i64 n)).far (p:=⟨w2.heap.size,1,none⟩) (by show w2.heap.size ≠ w.heap.size;omega) (.slice P3 p.length c3)
  have hP4:=hP3.set_ (.int .i64 n) (.slice P3 p.length c3)
  have hA4:((w3.setCell ⟨w2.heap.size,0,none⟩ (.int .i64 n)).setCell ⟨w2.heap.size,1,none⟩ (.slice P3 p.length c3)).cell? ⟨w1.heap.size,0,none⟩=some (.slice A1 z.length c1):=
   (cO _ ⟨w2.heap.size,1,none⟩ ⟨w1.heap.size,0,none⟩ _ (by intro e;injection e;omega)).trans ((cO _ ⟨w2.heap.size,0,none⟩ ⟨w1.heap.size,0,none⟩ _ (by intro e;injection e;omega)).trans hA3)
  have oA4:=(oA3.oth (p:=⟨w2.heap.size,0,none⟩) hApA (.int .i64 n)).oth (p:=⟨w2.heap.size,1,none⟩) hApA (.slice P3 p.length c3)
  have hw0:=hb2.size
  have oP4:=(oP3.far (p:=⟨w2.heap.size,0,none⟩) (.inl (by rw [World.size_alloc];exact Nat.lt_succ_self _)) (.int .i64 n)).far (p:=⟨w2.heap.size,1,none⟩) (.inl (by rw [World.size_alloc];exact Nat.lt_succ_self _)) (.slice P3 p.length c3)
  have hO4:OwnsH ((w3.setCell ⟨w2.heap.size,0,none⟩ (.int .i64 n)).setCell ⟨w2.heap.size,1,none⟩ (.slice P3 p.length c3)) (w.heap.size + 1) ⟨A1,c1,P3,c3,none,0⟩ ⟨z,n,fillW p 0 1 true,[]⟩:=⟨oA4.mono (by rw [World.size_alloc];exact Nat.le_refl _),oP4.mono (by rw [World.size_alloc];omega),[],rfl,OwnsS.nil _ _⟩
  have hb4:Below w.heap.size w ((w3.setCell ⟨w2.heap.size,0,none⟩ (.int .i64 n)).setCell ⟨w2.heap.size,1,none⟩ (.slice P3 p.length c3)):=(hb3.setCell (p:=⟨w2.heap.size,0,none⟩) hw0 _).setCell (p:=⟨w2.heap.size,1,none⟩) hw0 _
  have hF:=hR4.all (.slice A1 z.length c1) (.int .i64 n) (.slice P3 p.length c3) (.slice none 0 0)
  have hO5:=hO4.all (b:=w.heap.size) (by omega) (.slice A1 z.length c1) (.int .i64 n) (.slice P3 p.length c3) (.slice none 0 0)
  have hb5:=below_all hb4 (b:=w.heap.size) (Nat.le_refl _) (.slice A1 z.length c1) (.int .i64 n) (.slice P3 p.length c3) (.slice none 0 0)
  obtain ⟨q0,q1,qf⟩:=id hP4
  obtain ⟨r0,r1,r2,r3,z0,z1,z2,z3⟩:=id hR4
  clear hR3 hP3 hA3 hb_w3 hR2 hP2 hA2 ha2
  go_wp2
  exact bodyPost_ret (res_hp2 rfl rfl hF) rfl ⟨⟨A1,c1,P3,c3,none,0⟩,by rw [length_fillW];rfl,hO5.mono (by omega),hb5⟩
set_option maxHeartbeats 4000000 in
theorem zplace_any {w:World} {B b:Nat} {v:Hv} {h:Hp} (m:WB w B b v h) (hok:OkL h.l) (hw:h.ws.length ≤ 16384) (i k:Nat) (hi:i < h.l.length) (hk:k < slN (nth h.l i)) (hp:slA (nth h.l i) k < h.ws.length) (x:Nat) (hx:x < W64) (bl:Bool) :
  Calls Tryz.prog 77 #[.pointer (some ⟨b,0,none⟩),.int .i64 (i:Nat),.int .i64 (k:Nat),.int .u64 (x:Nat),.bool bl] w fun e w'=>e=.returned (.int .u64 ((slA (nth h.l i) k:Nat):Int))∧(∃ v',WB w' B b v' ⟨h.ws.set (slA (nth h.l i) k) x,h.n,h.us,h.l.set i (plcD (nth h.l i) k bl)⟩)∧Below B w w':=by
 obtain ⟨g,A,ca,M,cm,hV,hgB,hgl,hbg,c8,oA,oM,fz,fc,hc0⟩:=m.span hi
 have hle:=m.le
 have hbl:=m.lt
 have ok:=hok.at_ hi
 have hN:=ok.slK
 have han:=ok.an
 have hmn:=ok.mn
 have hl256:=hok.1
 have hpl:=ok.placed
 have hsz:=ok.sized.slots
 unfold Placed at hpl
 obtain ⟨b0,b1,b2,b3,f0,f1,f2,f3⟩:=id m.box
 rw [hV] at b3
 obtain ⟨d,hd⟩:∃ d,Hid (nth h.l i=d):=⟨_,Lib.hid rfl⟩
 have okp:=ok.plc hk bl
 have hslp:slN (plcD (nth h.l i) k bl)=slN (nth h.l i):=rfl
 have e3:=okp.slA_eq (k:=k) hk
 have hAE:=Lib.hid (show AddrE (plcD (nth h.l i) k bl) (k:Int) ((slA (nth h.l i) k:Nat):Int) 0 from .inl ⟨okp,by omega,by show (k:Int) < slotsOf (nth h.l i).z;omega,e3.1,rfl⟩)
 obtain ⟨a,ha⟩:∃ a,Hid (slA (nth h.l i) k=a):=⟨_,Lib.hid rfl⟩
 rw [ha.out] at hAE hp ⊢
 have HPA:=Lib.hid fun (w:World) (hr:Row w w.heap.size A (nth h.l i).aw)=>put_in (w:=w) (N:=(nth h.l i).an) (A:=A) (ws:=(nth h.l i).aw) ca true (k:Int) hr ok.a (by omega) (by omega)
 have HPM:=Lib.hid fun (w:World) (cap:Nat) (A:Option Addr) (hr:Row w w.heap.size A (nth h.l i).mw)=>put_in (w:=w) (N:=(nth h.l i).mn) (A:=A) (ws:=(nth h.l i).mw) cap bl (k:Int) hr ok.m (by omega) (by omega)
 have HAD:=Lib.hid fun (w:World) (A M:Option Addr) (ca cm:Nat) hA hM=>sAddr_any (w:=w) (d:=plcD (nth h.l i) k bl) (A:=A) (M:=M) ca cm hA hM (k:Int) (a:Nat) 0 hAE.out
 rw [Int.toNat_natCast] at HPA HPM
 have hla:=ok.aw
 have hlm:=ok.mw
 have HM:=Lib.hid m
 have HHd:=Lib.hid hd.out
 rw [hd.out] at HPA HPM HAD c8 oA oM hla hlm ⊢
 obtain ⟨df,dp,dz,dan,daw,dmn,dmw,ds⟩:=d
 unfold Fresh at HPA HPM
 unfold plcD spv at HAD
 simp only at HPA HPM HAD oA oM hla hlm
 obtain ⟨c0,c1,c2,c3,c4,c5,c6,c7⟩:=id c8
 simp only at c0 c1 c2 c3 c4 c5 c6 c7
 have g3:=fz (i * 8 + 3)
 have g4:=fz (i * 8 + 4)
 have g5:=fz (i * 8 + 5)
 have g6:=fz (i * 8 + 6)
 have HLA:=Lib.hid hla
 have HLM:=Lib.hid hlm
 clear m ok hN han hmn hpl hsz okp hslp e3 c8 fz hAE hok hla hlm
 have i0:(0:Int) ≤ (i:Int):=by omega
 have i1:(i:Int) < (h.l.length:Int):=by omega
 have hrow:=oA.row
 go_enter Tryz.func77,Tryz.ntmps77
 go_wp2_with fail
 go_at_call 140
 refine (HPA.out _ hrow).mono ?_
 rintro e w1 ⟨A1,ca1,rfl,o1,hb_w1⟩
 have hm1:=HM.out.later hb_w1
 have hs1:=hb_w1.size
 have p3:w1.cell? ⟨g,i * 8 + 3,none⟩=some (.int .i64 dan):=(hb_w1.cell (p:=⟨g,i * 8 + 3,none⟩) hgl).trans c3
 have p4:w1.cell? ⟨g,i * 8 + 4,none⟩=some (.slice A daw.length ca):=(hb_w1.cell (p:=⟨g,i * 8 + 4,none⟩) hgl).trans c4
 have q3:w1.frozen? ⟨g,i * 8 + 3,none⟩=false:=((bcell hb_w1).2 _ _ hgl).trans g3
 have q4:w1.frozen? ⟨g,i * 8 + 4,none⟩=false:=((bcell hb_w1).2 _ _ hgl).trans g4
 have p5:w1.cell? ⟨g,i * 8 + 5,none⟩=some (.int .i64 dmn):=(hb_w1.cell (p:=⟨g,i * 8 + 5,none⟩) hgl).trans c5
 have p6:w1.cell? ⟨g,i * 8 + 6,none⟩=some (.slice M dmw.length cm):=(hb_w1.cell (p:=⟨g,i * 8 + 6,none⟩) hgl).trans c6
 have q5:w1.frozen? ⟨g,i * 8 + 5,none⟩=false:=((bcell hb_w1).2 _ _ hgl).trans g5
 have q6:w1.frozen? ⟨g,i * 8 + 6,none⟩=false:=((bcell hb_w1).2 _ _ hgl).trans g6
 have hm2:WB ((w1.setCell ⟨g,i * 8 + 3,none⟩ (.int .i64 dan)).setCell ⟨g,i * 8 + 3 + 1,none⟩ (.slice A1 (putW daw k true).length ca1)) B b v (setL h i ⟨df,dp,dz,dan,putW daw k true,dmn,dmw,ds⟩):=by
  have:=hm1.setL_ hV hi (ca':=ca1) (o1.mono (B':=B) (by omega)) (o1.apt hbl) (o1.apt hgl) (by have:=HLA.out;rw [length_putW];omega)
  rw [HHd.out] at this
  exact this
 have hb2:Below B w ((w1.setCell ⟨g,i * 8 + 3,none⟩ (.int .i64 dan)).setCell ⟨g,i * 8 + 3 + 1,none⟩ (.slice A1 (putW daw k true).length ca1)):=((hb_w1.mono (by omega)).setCell (p:=⟨g,i * 8 + 3,none⟩) hgB _).setCell (p:=⟨g,i * 8 + 3 + 1,none⟩) hgB _
 have hsW:w1.heap.size ≤ ((w1.setCell ⟨g,i * 8 + 3,none⟩ (.int .i64 dan)).setCell ⟨g,i * 8 + 3 + 1,none⟩ (.slice A1 (putW daw k true).length ca1)).heap.size:=by simp only [zS];exact Nat.le_refl _
 have hc00:=hc0
 have hAg:=oM.apt_span hc00
 have oM2:Own ((w1.setCell ⟨g,i * 8 + 3,none⟩ (.int .i64 dan)).setCell ⟨g,i * 8 + 3 + 1,none⟩ (.slice A1 (putW daw k true).length ca1)) B M dmw:=((oM.later hb_w1).oth (p:=⟨g,i * 8 + 3,none⟩) hAg _).oth (p:=⟨g,i * 8 + 3 + 1,none⟩) hAg _
 have P5:((w1.setCell ⟨g,i * 8 + 3,none⟩ (.int .i64 dan)).setCell ⟨g,i * 8 + 3 + 1,none⟩ (.slice A1 (putW daw k true).length ca1)).cell? ⟨g,i * 8 + 5,none⟩=some (.int .i64 dmn):=(cO _ ⟨g,i * 8 + 3 + 1,none⟩ ⟨g,i * 8 + 5,none⟩ _ (by intro e;injection e;omega)).trans ((cO _ ⟨g,i * 8 + 3,none⟩ ⟨g,i * 8 + 5,none⟩ _ (by intro e;injection e;omega)).trans p5)
 have P6:((w1.setCell ⟨g,i * 8 + 3,none⟩ (.int .i64 dan)).setCell ⟨g,i * 8 + 3 + 1,none⟩ (.slice A1 (putW daw k true).length ca1)).cell? ⟨g,i * 8 + 6,none⟩=some (.slice M dmw.length cm):=(cO _ ⟨g,i * 8 + 3 + 1,none⟩ ⟨g,i * 8 + 6,none⟩ _ (by intro e;injection e;omega)).trans ((cO _ ⟨g,i * 8 + 3,none⟩ ⟨g,i * 8 + 6,none⟩ _ (by intro e;injection e;omega)).trans p6)
 have Q5:((w1.setCell ⟨g,i * 8 + 3,none⟩ (.int .i64 dan)).setCell ⟨g,i * 8 + 3 + 1,none⟩ (.slice A1 (putW daw k true).length ca1)).frozen? ⟨g,i * 8 + 5,none⟩=false:=by simp only [World.frozen?_setCell];exact q5
 have Q6:((w1.setCell ⟨g,i * 8 + 3,none⟩ (.int .i64 dan)).setCell ⟨g,i * 8 + 3 + 1,none⟩ (.slice A1 (putW daw k true).length ca1)).frozen? ⟨g,i * 8 + 6,none⟩=false:=by simp only [World.frozen?_setCell];exact q6
 clear b0 b1 b2 b3 f0 f1 f2 f3 c0 c1 c2 c3 c4 c5 c6 c7 g3 g4 g5 g6
 go_wp2_with fail
 clear p3 p4 p5 p6 q3 q4 q5 q6 hm1
 generalize ((w1.setCell ⟨g,i * 8 + 3,none⟩ (.int .i64 dan)).setCell ⟨g,i * 8 + 3 + 1,none⟩ (.slice A1 (putW daw k true).length ca1))=W2 at *
 have hbl2:=hm2.lt
 have hgl2:g < W2.heap.size:=by omega
 go_at_call 140
 refine (HPM.out _ cm M oM2.row).mono ?_
 rintro e w3 ⟨M3,cm3,rfl,o3,hb_w3⟩
 have hm3:=hm2.later hb_w3
 have hs3:=hb_w3.size
 have hi2:i < (setL h i ⟨df,dp,dz,dan,putW daw k true,dmn,dmw,ds⟩).l.length:=by simpa [setL] using hi
 have en:nth (setL h i ⟨df,dp,dz,dan,putW daw k true,dmn,dmw,ds⟩).l i=⟨df,dp,dz,dan,putW daw k true,dmn,dmw,ds⟩:=by show nth (h.l.set i _) i=_;rw [nth_set _ _ _ _ hi,if_pos rfl]
 have p5:w3.cell? ⟨g,i * 8 + 5,none⟩=some (.int .i64 dmn):=(hb_w3.cell (p:=⟨g,i * 8 + 5,none⟩) hgl2).trans P5
 have p6:w3.cell? ⟨g,i * 8 + 6,none⟩=some (.slice M dmw.length cm):=(hb_w3.cell (p:=⟨g,i * 8 + 6,none⟩) hgl2).trans P6
 have q5:w3.frozen? ⟨g,i * 8 + 5,none⟩=false:=((bcell hb_w3).2 _ _ hgl2).trans Q5
 have q6:w3.frozen? ⟨g,i * 8 + 6,none⟩=false:=((bcell hb_w3).2 _ _ hgl2).trans Q6
 have hm4:WB ((w3.setCell ⟨g,i * 8 + 5,none⟩ (.int .i64 dmn)).setCell ⟨g,i * 8 + 5 + 1,none⟩ (.slice M3 (putW dmw k bl).length cm3)) B b v (setL h i ⟨df,dp,dz,dan,putW daw k true,dmn,putW dmw k bl,ds⟩):=by
  have:=hm3.setM hV hi2 (cm':=cm3) (o3.mono (B':=B) (by omega)) (o3.apt hbl2) (o3.apt hgl2) (by have:=HLM.out;rw [length_putW];omega)
  rw [en] at this
  have e2:setL (setL h i ⟨df,dp,dz,dan,putW daw k true,dmn,dmw,ds⟩) i ⟨df,dp,dz,dan,putW daw k true,dmn,putW dmw k bl,ds⟩=setL h i ⟨df,dp,dz,dan,putW daw k true,dmn,putW dmw k bl,ds⟩:=by unfold setL;simp only [List.set_set]
  rw [e2] at this
  exact this
 have hb4:Below B w ((w3.setCell ⟨g,i * 8 + 5,none⟩ (.int .i64 dmn)).setCell ⟨g,i * 8 + 5 + 1,none⟩ (.slice M3 (putW dmw k bl).length cm3)):=((hb2.trans (hb_w3.mono (by omega))).setCell (p:=⟨g,i * 8 + 5,none⟩) hgB _).setCell (p:=⟨g,i * 8 + 5 + 1,none⟩) hgB _
 have hi4:i < (setL h i ⟨df,dp,dz,dan,putW daw k true,dmn,putW dmw k bl,ds⟩).l.length:=by simpa [setL] using hi
 have en4:nth (setL h i ⟨df,dp,dz,dan,putW daw k true,dmn,putW dmw k bl,ds⟩).l i=⟨df,dp,dz,dan,putW daw k true,dmn,putW dmw k bl,ds⟩:=by show nth (h.l.set i _) i=_;rw [nth_set _ _ _ _ hi,if_pos rfl]
 obtain ⟨g',A',ca',M',cm',hV',_,_,_,c8',oA',oM',_,_,_⟩:=hm4.span hi4
 obtain rfl:g'=g:=by rw [hV] at hV';injection hV' with e;injection e with e;exact e.symm
 rw [en4] at c8' oA' oM'
 obtain ⟨d0,d1,d2,d3,d4,d5,d6,d7⟩:=c8'
 simp only [Nat.add_zero] at d0 d1 d2 d3 d4 d5 d6 d7 oA' oM'
 go_wp2_with fail
 clear p5 p6 q5 q6
 generalize ((w3.setCell ⟨g',i * 8 + 5,none⟩ (.int .i64 dmn)).setCell ⟨g',i * 8 + 5 + 1,none⟩ (.slice M3 (putW dmw k bl).length cm3))=W4 at *
 go_at_call 161
 refine (HAD.out _ A' M' ca' cm' oA'.row oM'.row).mono ?_
 rintro e w5 ⟨rfl,hb_w5⟩
 have hm5:=hm4.later hb_w5
 have hb4s:=hb4.size
 have hb5:Below B w w5:=hb4.trans (hb_w5.mono (by have:=hm4.lt;omega))
 have HST:=Lib.hid (zstore_any hm5 a x hw hp hx)
 clear d0 d1 d2 d3 d4 d5 d6 d7
 go_wp2_with fail
 go_at_call 105
 refine HST.out.mono ?_
 rintro e w6 ⟨rfl,⟨v6,hm6,hx6,hy6⟩,hb_w6⟩
 clear hx6 hy6
 have hb6:Below B w w6:=hb5.trans hb_w6
 go_wp2
 go_ret
 exact ⟨rfl,⟨v6,hm6⟩,hb6⟩
def sL:Sd:=⟨1,1,4,4,[4],4,[0],true⟩
theorem OkL.apart {l:List Sd} (h:OkL l) {i k:Nat} (hik:i < k) (hk:k < l.length):(nth l i).f + (nth l i).p ≤ (nth l k).f:=by
 induction k with
 | zero=>omega
 | succ k ih=>
  have h1:=h.2.2 k hk
  by_cases e:i=k
  ·subst e;exact h1
  ·have h2:=ih (by omega) (by omega)
   have:=(h.2.1 k (by omega)).sized.slots
   omega
theorem Ok1.in_ {d:Sd} (h:Ok1 d) {a:Int} (h0:0 ≤ a) (h1:a < slotsOf d.z):0 ≤ a * d.z∧a * d.z + 2 ≤ d.p * 16:=by
 obtain ⟨f,p,z,an,aw,mn,mw,s⟩:=d
 have hs:=h.sized
 simp only at *
 rcases hs with ⟨rfl | rfl | rfl | rfl,rfl⟩ | ⟨rfl,g1,g2⟩
 ·rw [show slotsOf 2=8 by decide] at h1;omega
 ·rw [show slotsOf 4=4 by decide] at h1;omega
 ·rw [show slotsOf 8=2 by decide] at h1;omega
 ·rw [show slotsOf 16=1 by decide] at h1;omega
 ·omega
section
variable {w:World} {A:Option Addr} {l:List Sd} (cap:Nat)
end
section
variable {w:World} {A M C N:Option Addr} (ca cm cc cn:Nat)
theorem xsameone_self (d:Sd) (hA:Row w w.heap.size A d.aw) (hM:Row w w.heap.size M d.mw) (hC:Row w w.heap.size C d.aw) (hN:Row w w.heap.size N d.mw) (la:d.aw.length ≤ 17592186044416) (lm:d.mw.length ≤ 17592186044416) :
  Calls Tryz.prog 173 #[spv d A ca M cm,spv d C cc N cn] w fun e w'=>e=.returned (.bool true)∧Below w.heap.size w w':=by
 have HA:=Lib.hid fun (w:World) h1 h2=>same_ok d.an d.aw (by unfold maxLen;omega) w A C ca cc h1 h2
 have HM:=Lib.hid fun (w:World) h1 h2=>same_ok d.mn d.mw (by unfold maxLen;omega) w M N cm cn h1 h2
 obtain ⟨f,p,z,an,aw,mn,mw,s⟩:=d
 unfold spv
 simp only at *
 have n1:(f == f)=true:=by simp
 have n2:(p == p)=true:=by simp
 have n3:(z == z)=true:=by simp
 have n4:(s == s)=true:=by simp
 go_enter Tryz.func173,Tryz.ntmps173
 go_wp2_with fail
 go_at_call 130
 refine (HA.out _ (hA.later bX) (hC.later bX)).mono ?_
 rintro e w2 ⟨rfl,hb_w2⟩
 obtain ⟨hc_w2,hf_w2⟩:=bcell hb_w2
 have hs2:=hb_w2.size
 (try simp only [zA] at hs2)
 have b2:Below w.heap.size w w2:=bX
 have x0:w2.cell? ⟨w.heap.size,0,none⟩=some (.int .i64 f):=(hc_w2 _ _ lX).trans (by simp [go_sem])
 have x1:w2.cell? ⟨w.heap.size,1,none⟩=some (.int .i64 p):=(hc_w2 _ _ lX).trans (by simp [go_sem])
 have x2:w2.cell? ⟨w.heap.size,2,none⟩=some (.int .i64 z):=(hc_w2 _ _ lX).trans (by simp [go_sem])
 have x3:w2.cell? ⟨w.heap.size,3,none⟩=some (.int .i64 an):=(hc_w2 _ _ lX).trans (by simp [go_sem])
 have x4:w2.cell? ⟨w.heap.size,4,none⟩=some (.slice A aw.length ca):=(hc_w2 _ _ lX).trans (by simp [go_sem])
 have x5:w2.cell? ⟨w.heap.size,5,none⟩=some (.int .i64 mn):=(hc_w2 _ _ lX).trans (by simp [go_sem])
 have x6:w2.cell? ⟨w.heap.size,6,none⟩=some (.slice M mw.length cm):=(hc_w2 _ _ lX).trans (by simp [go_sem])
 have x7:w2.cell? ⟨w.heap.size,7,none⟩=some (.bool s):=(hc_w2 _ _ lX).trans (by simp [go_sem])
 have y0:w2.cell? ⟨w.heap.size + 1,0,none⟩=some (.int .i64 f):=(hc_w2 _ _ lX).trans (by simp [go_sem])
 have y1:w2.cell? ⟨w.heap.size + 1,1,none⟩=some (.int .i64 p):=(hc_w2 _ _ lX).trans (by simp [go_sem])
 have y2:w2.cell? ⟨w.heap.size + 1,2,none⟩=some (.int .i64 z):=(hc_w2 _ _ lX).trans (by simp [go_sem])
 have y3:w2.cell? ⟨w.heap.size + 1,3,none⟩=some (.int .i64 an):=(hc_w2 _ _ lX).trans (by simp [go_sem])
 have y4:w2.cell? ⟨w.heap.size + 1,4,none⟩=some (.slice C aw.length cc):=(hc_w2 _ _ lX).trans (by simp [go_sem])
 have y5:w2.cell? ⟨w.heap.size + 1,5,none⟩=some (.int .i64 mn):=(hc_w2 _ _ lX).trans (by simp [go_sem])
 have y6:w2.cell? ⟨w.heap.size + 1,6,none⟩=some (.slice N mw.length cn):=(hc_w2 _ _ lX).trans (by simp [go_sem])
 have y7:w2.cell? ⟨w.heap.size + 1,7,none⟩=some (.bool s):=(hc_w2 _ _ lX).trans (by simp [go_sem])
 clear hc_w2 hf_w2
 go_wp2_with fail
 go_at_call 130
 refine (HM.out _ (hM.later b2) (hN.later b2)).mono ?_
 rintro e w3 ⟨rfl,hb_w3⟩
 have hs3:=hb_w3.size
 have b3:Below w.heap.size w w3:=b2.trans (hb_w3.mono (by omega))
 have X7:w3.cell? ⟨w.heap.size,7,none⟩=some (.bool s):=(hb_w3.cell (p:=⟨w.heap.size,7,none⟩) (by show w.heap.size < _;omega)).trans x7
 have Y7:w3.cell? ⟨w.heap.size + 1,7,none⟩=some (.bool s):=(hb_w3.cell (p:=⟨w.heap.size + 1,7,none⟩) (by show w.heap.size + 1 < _;omega)).trans y7
 go_wp2
 go_ret
 exact ⟨rfl,b3⟩
end
section
variable {w:World} {A C:Option Addr} {l:List Sd} (cap cc:Nat)
set_option maxHeartbeats 8000000 in
theorem xsameL_self (hr:SRow w w.heap.size A l) (hq:SRow w w.heap.size C l) (hl:l.length ≤ 17592186044416) (hw:WordsLe l) :
  Calls Tryz.prog 94 #[.slice A l.length cap,.slice C l.length cc] w fun e w'=>e=.returned (.bool true)∧Below w.heap.size w w':=by
 have HW:=Lib.hid hw
 clear hw
 go_enter Tryz.func94,Tryz.ntmps94
 go_wp2_with fail
 go_loopw [13] (fun ii wr=>∃ k:Nat,ii=.int .i64 (k:Nat)∧k ≤ l.length∧w.heap.size ≤ wr.heap.size∧Below w.heap.size w wr) (fun ii _=>l.length - (intOf ii).toNat)
 case atStart=>exact ⟨0,rfl,Nat.zero_le _,lX,bX⟩
 case round=>
  obtain ⟨k,rfl,hk,hsz,hb_wr⟩:=hrel
  have hsr:=hb_wr.size
  by_cases hlt:k < l.length
  ·obtain ⟨b,off,hAe,hbb,hc⟩:=(hr.later hb_wr).at_ (by omega)
   obtain ⟨b',off',hCe,hbb',hc'⟩:=(hq.later hb_wr).at_ (by omega)
   obtain ⟨A,ca,M,cm,c8,ra,rm⟩:=hc k hlt
   obtain ⟨C,cc',N,cn,c8',rc,rn⟩:=hc' k hlt
   obtain ⟨wa,wm⟩:=HW.out _ (nth_mem l k hlt)
   generalize nth l k=d at *
   have HO:=Lib.hid fun (w:World) h1 h2 h3 h4=>xsameone_self (w:=w) (A:=A) (M:=M) (C:=C) (N:=N) ca cm cc' cn d h1 h2 h3 h4 wa wm
   obtain ⟨x0,x1,x2,x3,x4,x5,x6,x7⟩:=c8
   obtain ⟨y0,y1,y2,y3,y4,y5,y6,y7⟩:=c8'
   subst hAe hCe
   clear hc hc' wa wm
   obtain ⟨f,p,z,an,aw,mn,mw,s⟩:=d
   unfold spv at HO
   simp only at *
   have i1:(k:Int) < (l.length:Int):=by omega
   have i2:(0:Int) ≤ (k:Int):=by omega
   go_wp2_with fail
   go_region_held3 (fun X:World=>X.cell? ⟨b,off + k * 8,none⟩=some (.int .i64 f)∧X.cell? ⟨b,off + k * 8 + 1,none⟩=some (.int .i64 p)∧X.cell? ⟨b,off + k * 8 + 2,none⟩=some (.int .i64 z)∧X.cell? ⟨b,off + k * 8 + 3,none⟩=some (.int .i64 an)∧X.cell? ⟨b,off + k * 8 + 4,none⟩=some (.slice A aw.length ca)∧X.cell? ⟨b,off + k * 8 + 5,none⟩=some (.int .i64 mn)∧X.cell? ⟨b,off + k * 8 + 6,none⟩=some (.slice M mw.length cm)∧X.cell? ⟨b,off + k * 8 + 7,none⟩=some (.bool s)∧X.cell? ⟨b',off' + k * 8,none⟩=some (.int .i64 f)∧X.cell? ⟨b',off' + k * 8 + 1,none⟩=some (.int .i64 p)∧X.cell? ⟨b',off' + k * 8 + 2,none⟩=some (.int .i64 z)∧X.cell? ⟨b',off' + k * 8 + 3,none⟩=some (.int .i64 an)∧X.cell? ⟨b',off' + k * 8 + 4,none⟩=some (.slice C aw.length cc')∧X.cell? ⟨b',off' + k * 8 + 5,none⟩=some (.int .i64 mn)∧X.cell? ⟨b',off' + k * 8 + 6,none⟩=some (.slice N mw.length cn)∧X.cell? ⟨b',off' + k * 8 + 7,none⟩=some (.bool s))
    (refine ⟨?_,?_,?_,?_,?_,?_,?_,?_,?_,?_,?_,?_,?_,?_,?_,?_⟩ <;> first | assumption | exact (World.cell?_alloc_lt _ _ ⟨_,_,_⟩ lX).trans (by assumption) | (simp [go_sem];done))
    ((go_at_call 173;refine (HO.out _ (ra.later bX) (rm.later bX) (rc.later bX) (rn.later bX)).mono ?_;rintro e w5 ⟨rfl,hb_w5⟩;have hs5:=hb_w5.size;(try simp only [zZ] at hs5);have m0:w5.cell? ⟨b,off + k * 8,none⟩=some (.int .i64 f):=(hb_w5.cell lX).trans kY;have m1:w5.cell? ⟨b,off + k * 8 + 1,none⟩=some (.int .i64 p):=(hb_w5.cell lX).trans kY;have m2:w5.cell? ⟨b,off + k * 8 + 2,none⟩=some (.int .i64 z):=(hb_w5.cell lX).trans kY;have m3:w5.cell? ⟨b,off + k * 8 + 3,none⟩=some (.int .i64 an):=(hb_w5.cell lX).trans kY;have m4:w5.cell? ⟨b,off + k * 8 + 4,none⟩=some (.slice A aw.length ca):=(hb_w5.cell lX).trans kY;have m5:w5.cell? ⟨b,off + k * 8 + 5,none⟩=some (.int .i64 mn):=(hb_w5.cell lX).trans kY;have m6:w5.cell? ⟨b,off + k * 8 + 6,none⟩=some (.slice M mw.length cm):=(hb_w5.cell lX).trans kY;have m7:w5.cell? ⟨b,off + k * 8 + 7,none⟩=some (.bool s):=(hb_w5.cell lX).trans kY;have m8:w5.cell? ⟨b',off' + k * 8,none⟩=some (.int .i64 f):=(hb_w5.cell lX).trans kY;have m9:w5.cell? ⟨b',off' + k * 8 + 1,none⟩=some (.int .i64 p):=(hb_w5.cell lX).trans kY;have m10:w5.cell? ⟨b',off' + k * 8 + 2,none⟩=some (.int .i64 z):=(hb_w5.cell lX).trans kY;have m11:w5.cell? ⟨b',off' + k * 8 + 3,none⟩=some (.int .i64 an):=(hb_w5.cell lX).trans kY;have m12:w5.cell? ⟨b',off' + k * 8 + 4,none⟩=some (.slice C aw.length cc'):=(hb_w5.cell lX).trans kY;have m13:w5.cell? ⟨b',off' + k * 8 + 5,none⟩=some (.int .i64 mn):=(hb_w5.cell lX).trans kY;have m14:w5.cell? ⟨b',off' + k * 8 + 6,none⟩=some (.slice N mw.length cn):=(hb_w5.cell lX).trans kY;have m15:w5.cell? ⟨b',off' + k * 8 + 7,none⟩=some (.bool s):=(hb_w5.cell lX).trans kY))
   all_goals
    go_wp2
    go_roundw
    case rel=>exact ⟨k + 1,by go_num,by omega,lX,bX⟩
    case measure=>simp [intOf];omega
  ·go_wp2
   go_ret
   exact ⟨rfl,hb_wr⟩
end
def insS (l:List Sd) (s:Sd) (n:Nat):List Sd:=l.take n ++ [s] ++ l.drop n
theorem insS_len (l:List Sd) (s:Sd) (n:Nat) (hn:n ≤ l.length):(insS l s n).length=l.length + 1:=by
 simp only [insS,List.length_append,List.length_take,List.length_drop,List.length_singleton];omega
theorem insS_nth (l:List Sd) (s:Sd) (n j:Nat) (hn:n ≤ l.length):nth (insS l s n) j=if j < n then nth l j else if j=n then s else nth l (j - 1):=by
 unfold nth insS
 simp only [List.getD_eq_getElem?_getD]
 have hl:(l.take n ++ [s]).length=n + 1:=by simp only [List.length_append,List.length_take,List.length_singleton];omega
 by_cases h:j < n
 ·rw [if_pos h,List.getElem?_append_left (by omega),List.getElem?_append_left (by rw [List.length_take];omega),List.getElem?_take_of_lt h]
 ·rw [if_neg h]
  by_cases e:j=n
  ·subst e
   rw [if_pos rfl,List.getElem?_append_left (by omega),List.getElem?_append_right (by rw [List.length_take];omega)]
   rw [List.length_take,show j - min j l.length=0 by omega]
   rfl
  ·rw [if_neg e,List.getElem?_append_right (by omega),List.getElem?_drop,hl,show n + (j - (n + 1))=j - 1 by omega]
theorem pos_before {l:List Sd} {s:Sd} {n:Nat} (h:PosE l s n):∀ j,j < n → (nth l j).f + (nth l j).p ≤ s.f:=fun j hj=>by
 have hf:hitsS s (nth l j)=false:=by
  rcases h with ⟨h1,rfl⟩ | h1
  ·rcases h1 with ⟨_,h2⟩ | ⟨i,h2,_⟩
   ·exact h2 j hj
   ·omega
  ·rcases h1 with ⟨h2,_⟩ | ⟨i,h2,_,_,h3⟩
   ·omega
   ·exact h3 j (by omega)
 unfold hitsS at hf
 have:=of_decide_eq_false hf
 omega
theorem insS_ok {l:List Sd} {s:Sd} {n:Nat} (h:OkL l) (h1:Ok1 s) (hp:PosE l s n) (hc:¬ Clash l s n) (h256:l.length < 256):OkL (insS l s n):=by
 have hn:=hp.le
 have hb:=pos_before hp
 refine ⟨by rw [insS_len _ _ _ hn];omega,fun i hi=>?_,fun i hi=>?_⟩
 ·rw [insS_len _ _ _ hn] at hi
  rw [insS_nth _ _ _ _ hn]
  split
  ·exact h.2.1 i (by omega)
  ·split
   ·exact h1
   ·exact h.2.1 (i - 1) (by omega)
 ·rw [insS_len _ _ _ hn] at hi
  rw [insS_nth _ _ _ _ hn,insS_nth _ _ _ _ hn]
  by_cases e1:i + 1 < n
  ·rw [if_pos (by omega),if_pos e1]
   exact h.2.2 i (by omega)
  ·by_cases e2:i + 1=n
   ·rw [if_pos (by omega),if_neg (by omega),if_pos e2]
    exact hb i (by omega)
   ·by_cases e3:i=n
    ·rw [if_neg (by omega),if_pos e3,if_neg (by omega),if_neg (by omega),show i + 1 - 1=n by omega]
     have:¬ (nth l n).f < s.f + s.p:=fun hlt=>hc ⟨by omega,hlt⟩
     omega
    ·rw [if_neg (by omega),if_neg e3,if_neg (by omega),if_neg (by omega)]
     have:=h.2.2 (i - 1) (by omega)
     rw [show i - 1 + 1=i by omega] at this
     rw [show i + 1 - 1=i by omega]
     exact this
theorem insS_find {l:List Sd} {s:Sd} {n:Nat} (h:OkL l) (hp:PosE l s n):IdxE (insS l s n) (fun d=>d.f == s.f) (n:Nat):=by
 have hn:=hp.le
 have hb:=pos_before hp
 refine .inr ⟨n,rfl,by rw [insS_len _ _ _ hn];omega,?_,fun j hj=>?_⟩
 ·rw [insS_nth _ _ _ _ hn,if_neg (by omega),if_pos rfl]
  simp
 ·rw [insS_nth _ _ _ _ hn,if_pos hj]
  have:=hb j hj
  have:=(h.2.1 j (by omega)).sized.slots
  simp
  omega
section
variable {w:World} {A As Ms:Option Addr} {l:List Sd} (cap ca cm:Nat)
end
section
variable {w:World} {A M:Option Addr} (ca cm:Nat)
set_option maxHeartbeats 4000000 in
theorem xright_z0 (f p an:Int) (aw:List Nat) (mn:Int) (mw:List Nat) (s:Bool) (hp2:2 ≤ p) (hp4:p ≤ 4) (hpl:Placed f p) (hA:Row w w.heap.size A aw) (hM:Row w w.heap.size M mw) (b:Bool) (hb:b=true ↔ Rec ⟨f,p,0,an,aw,mn,mw,s⟩) :
  Calls Tryz.prog 169 #[.agg #[.int .i64 f,.int .i64 p,.int .i64 0,.int .i64 an,.slice A aw.length ca,.int .i64 mn,.slice M mw.length cm,.bool s]] w fun e w'=>e=.returned (.bool b)∧Below w.heap.size w w':=by
 unfold Placed at hpl
 obtain ⟨p0,p1⟩:=hpl
 have d1:decide (f < 0)=false:=decide_eq_false (by omega)
 have d2:decide (1024 - p < f)=false:=decide_eq_false (by omega)
 have d3:decide (2 ≤ p)=true:=decide_eq_true hp2
 have d4:decide (p ≤ 4)=true:=decide_eq_true hp4
 have d5:decide (1024 - p < f)=false:=d2
 have d6:IntKind.i64.wrap (1024 - p)=1024 - p:=by rw [IntWalk.i64_in _ (by omega)]
 have hslots:slotsOf 0=1:=by decide
 unfold Rec at hb
 simp only [hslots] at hb
 have HB:=Lib.hid hb
 have HMY:=Lib.hid fun (w:World)=>xmany_any (w:=w) (p:=p) (z:=0) (by unfold Sized;omega)
 rw [hslots] at HMY
 clear hb
 by_cases hra:Right an aw
 ·have HRA:=Lib.hid hra
  clear hra
  by_cases hrm:Right mn mw
  ·have HRM:=Lib.hid hrm
   clear hrm
   by_cases ha:an=1
   ·subst ha
    by_cases hm:mn=1
    ·subst hm
     have HSUB:Hid (b=true ↔ ∀ i,i < 1 → tb mw i=true → tb aw i=true):=Lib.hid ⟨fun h=>(HB.out.1 h).2.2.2.2,fun h=>HB.out.2 ⟨rfl,rfl,HRA.out,HRM.out,h⟩⟩
     have la:aw.length=1:=by have:=HRA.out.2.2.1;omega
     have lm:mw.length=1:=by have:=HRM.out.2.2.1;omega
     have HLA:=Lib.hid la
     have HLM:=Lib.hid lm
     clear la lm
     have HCA:=Lib.hid fun (w:World) hr=>rcheck_ok (n:=1) (A:=A) (ws:=aw) (w:=w) ca hr HRA.out
     have HCM:=Lib.hid fun (w:World) hr=>rcheck_ok (n:=1) (A:=M) (ws:=mw) (w:=w) cm hr HRM.out
     go_enter Tryz.func169,Tryz.ntmps169
     go_wp2_with fail
     refine wp_region_held_drew (S:=(fun X:World=>X.cell? ⟨w.heap.size,0,none⟩=some (.int .i64 f)∧X.cell? ⟨w.heap.size,1,none⟩=some (.int .i64 p)∧X.cell? ⟨w.heap.size,2,none⟩=some (.int .i64 0)∧X.cell? ⟨w.heap.size,3,none⟩=some (.int .i64 1)∧X.cell? ⟨w.heap.size,4,none⟩=some (.slice A aw.length ca)∧X.cell? ⟨w.heap.size,5,none⟩=some (.int .i64 1)∧X.cell? ⟨w.heap.size,6,none⟩=some (.slice M mw.length cm)∧X.cell? ⟨w.heap.size,7,none⟩=some (.bool s))) (by kernel_rfl) ?_ fun _=>?_
     ·exact kS
     refine tY 0 ?_
     try simp only [Act.put,qZ]
     refine tY 1 ?_
     try simp only [Act.put,qZ]
     refine tR 2 fun K hK=>?_
     try simp only [qZ]
     go_simp
     go_at_call 135
     refine (HCA.out _ (hA.later bX)).mono ?_
     rintro e w1 ⟨rfl,hb_w1⟩
     have hs_w1:=hb_w1.size
     (try simp only [zZ] at hs_w1)
     have mw10:w1.cell? ⟨w.heap.size,0,none⟩=some (.int .i64 f):=cX hb_w1
     have mw11:w1.cell? ⟨w.heap.size,1,none⟩=some (.int .i64 p):=cX hb_w1
     have mw12:w1.cell? ⟨w.heap.size,2,none⟩=some (.int .i64 0):=cX hb_w1
     have mw13:w1.cell? ⟨w.heap.size,3,none⟩=some (.int .i64 1):=cX hb_w1
     have mw14:w1.cell? ⟨w.heap.size,4,none⟩=some (.slice A aw.length ca):=cX hb_w1
     have mw15:w1.cell? ⟨w.heap.size,5,none⟩=some (.int .i64 1):=cX hb_w1
     have mw16:w1.cell? ⟨w.heap.size,6,none⟩=some (.slice M mw.length cm):=cX hb_w1
     have mw17:w1.cell? ⟨w.heap.size,7,none⟩=some (.bool s):=cX hb_w1
     try go_wp2_with fail
     refine hK.out _ _ ?_ fun _=>?_
     ·exact kS
     clear hK K
     try simp only [Act.put,qZ]
     refine tY 3 ?_
     try simp only [Act.put,qZ]
     refine tY 4 ?_
     try simp only [Act.put,qZ]
     refine tY 5 ?_
     try simp only [Act.put,qZ]
     refine tY 6 ?_
     try simp only [Act.put,qZ]
     refine tR 7 fun K hK=>?_
     try simp only [qZ]
     go_simp
     go_at_call 135
     refine (HCM.out _ (hM.later bX)).mono ?_
     rintro e w2 ⟨rfl,hb_w2⟩
     have hs_w2:=hb_w2.size
     (try simp only [zZ] at hs_w2)
     have mw20:w2.cell? ⟨w.heap.size,0,none⟩=some (.int .i64 f):=cX hb_w2
     have mw21:w2.cell? ⟨w.heap.size,1,none⟩=some (.int .i64 p):=cX hb_w2
     have mw22:w2.cell? ⟨w.heap.size,2,none⟩=some (.int .i64 0):=cX hb_w2
     have mw23:w2.cell? ⟨w.heap.size,3,none⟩=some (.int .i64 1):=cX hb_w2
     have mw24:w2.cell? ⟨w.heap.size,4,none⟩=some (.slice A aw.length ca):=cX hb_w2
     have mw25:w2.cell? ⟨w.heap.size,5,none⟩=some (.int .i64 1):=cX hb_w2
     have mw26:w2.cell? ⟨w.heap.size,6,none⟩=some (.slice M mw.length cm):=cX hb_w2
     have mw27:w2.cell? ⟨w.heap.size,7,none⟩=some (.bool s):=cX hb_w2
     try go_wp2_with fail
     refine hK.out _ _ ?_ fun _=>?_
     ·exact kS
     clear hK K
     try simp only [Act.put,qZ]
     refine tY 8 ?_
     try simp only [Act.put,qZ]
     refine tR 9 fun K hK=>?_
     try simp only [qZ]
     go_simp
     refine hK.out _ _ ?_ fun _=>?_
     ·exact kS
     clear hK K
     try simp only [Act.put,qZ]
     refine tY 10 ?_
     try simp only [Act.put,qZ]
     refine tY 11 ?_
     try simp only [Act.put,qZ]
     refine tY 12 ?_
     try simp only [Act.put,qZ]
     refine tY 13 ?_
     try simp only [Act.put,qZ]
     refine tY 14 ?_
     try simp only [Act.put,qZ]
     refine tY 15 ?_
     try simp only [Act.put,qZ]
     refine tR 16 fun K hK=>?_
     try simp only [qZ]
     go_simp
     go_at_call 163
     refine (HMY.out _).mono ?_
     rintro e w0 ⟨rfl,rfl⟩
     try go_wp2_with fail
     refine hK.out _ _ ?_ fun _=>?_
     ·exact kS
     clear hK K
     try simp only [Act.put,qZ]
     refine tY 17 ?_
     try simp only [Act.put,qZ]
     refine tR 18 fun K hK=>?_
     try simp only [qZ]
     go_simp
     refine hK.out _ _ ?_ fun _=>?_
     ·exact kS
     clear hK K
     try simp only [Act.put,qZ]
     refine tY 19 ?_
     try simp only [Act.put,qZ]
     refine tY 20 ?_
     try simp only [Act.put,qZ]
     refine tY 21 ?_
     try simp only [Act.put,qZ]
     refine tY 22 ?_
     try simp only [Act.put,qZ]
     refine tY 23 ?_
     try simp only [Act.put,qZ]
     refine tY 24 ?_
     try simp only [Act.put,qZ]
     refine tR 25 fun K hK=>?_
     try simp only [qZ]
     go_simp
     go_at_call 163
     refine (HMY.out _).mono ?_
     rintro e w0 ⟨rfl,rfl⟩
     try go_wp2_with fail
     refine hK.out _ _ ?_ fun _=>?_
     ·exact kS
     clear hK K
     try simp only [Act.put,qZ]
     refine tY 26 ?_
     try simp only [Act.put,qZ]
     refine tR 27 fun K hK=>?_
     try simp only [qZ]
     go_simp
     refine hK.out _ _ ?_ fun _=>?_
     ·exact kS
     clear hK K
     try simp only [Act.put,qZ]
     refine wpAnyH_done (by kernel_rfl) ?_ _
     go_wp2_with fail
     go_loopw [5] (fun ii wr=>∃ k:Nat,ii=.int .i64 (k:Nat)∧k ≤ 1∧Hid (∀ i,i < k → tb mw i=true → tb aw i=true)∧wr.cell? ⟨w.heap.size,3,none⟩=some (.int .i64 1)∧wr.cell? ⟨w.heap.size,4,none⟩=some (.slice A aw.length ca)∧wr.cell? ⟨w.heap.size,5,none⟩=some (.int .i64 1)∧wr.cell? ⟨w.heap.size,6,none⟩=some (.slice M mw.length cm)∧w.heap.size + 1 ≤ wr.heap.size∧Below w.heap.size w wr) (fun ii _=>1 - (intOf ii).toNat)
     case atStart=>exact ⟨0,rfl,by omega,Lib.hid (fun i hi=>by omega),by first | assumption | (simp;assumption),by first | assumption | (simp;assumption),by first | assumption | (simp;assumption),by first | assumption | (simp;assumption),lX,bX⟩
     case round=>
      obtain ⟨k,rfl,hk,hS,q3,q4,q5,q6,hsz,hb_wr⟩:=hrel
      have hsr:=hb_wr.size
      have rA:=hA.later hb_wr
      have rM:=hM.later hb_wr
      by_cases hlt:k < 1
      ·have i1:(k:Int) < 1:=by omega
       obtain ⟨bm,hbm⟩:∃ x,Hid (tb mw k=x):=⟨_,rfl⟩
       obtain ⟨ba,hba⟩:∃ x,Hid (tb aw k=x):=⟨_,rfl⟩
       have HIM:=Lib.hid fun (w:World) hr=>is_any (A:=M) (ws:=mw) (w:=w) (k:Nat) 1 cm hr (by omega) (by rw [HLM.out];omega) (by rw [HLM.out];omega)
       have HIA:=Lib.hid fun (w:World) hr=>is_any (A:=A) (ws:=aw) (w:=w) (k:Nat) 1 ca hr (by omega) (by rw [HLA.out];omega) (by rw [HLA.out];omega)
       simp only [Int.toNat_natCast] at HIM HIA
       rw [hbm.out] at HIM
       rw [hba.out] at HIA
       cases bm
       ·go_wp2_with (go_at_call 107;refine (HIM.out _ (rM.later bX)).mono ?_;rintro e w5 ⟨rfl,hb_w5⟩;have hs5:=hb_w5.size)
        go_roundw
        case rel=>exact ⟨k + 1,by go_num,by omega,Lib.hid (fun i hi h=>by
          by_cases e:i=k
          ·subst e;rw [hbm.out] at h;cases h
          ·exact hS.out i (by omega) h),(hb_w5.cell lX).trans q3,(hb_w5.cell lX).trans q4,(hb_w5.cell lX).trans q5,(hb_w5.cell lX).trans q6,lX,bX⟩
        case measure=>simp [intOf];omega
       ·cases ba
        ·obtain rfl:b=false:=by
          cases b
          ·rfl
          ·have:=HSUB.out.1 rfl k hlt hbm.out
           rw [hba.out] at this
           cases this
         go_wp2_with fail
         go_at_call 107
         refine (HIM.out _ (rM.later bX)).mono ?_
         rintro e w5 ⟨rfl,hb_w5⟩
         have hs5:=hb_w5.size
         have x3:=(hb_w5.cell lX).trans q3
         have x4:=(hb_w5.cell lX).trans q4
         go_wp2_with fail
         go_at_call 107
         refine (HIA.out _ ((rA.later hb_w5).later bX)).mono ?_
         rintro e w6 ⟨rfl,hb_w6⟩
         have hs6:=hb_w6.size
         go_wp2
         go_ret
         exact ⟨rfl,bX⟩
        ·go_wp2_with fail
         go_at_call 107
         refine (HIM.out _ (rM.later bX)).mono ?_
         rintro e w5 ⟨rfl,hb_w5⟩
         have hs5:=hb_w5.size
         have x3:=(hb_w5.cell lX).trans q3
         have x4:=(hb_w5.cell lX).trans q4
         have x5:=(hb_w5.cell lX).trans q5
         have x6:=(hb_w5.cell lX).trans q6
         go_wp2_with fail
         go_at_call 107
         refine (HIA.out _ ((rA.later hb_w5).later bX)).mono ?_
         rintro e w6 ⟨rfl,hb_w6⟩
         have hs6:=hb_w6.size
         go_wp2
         go_roundw
         case rel=>exact ⟨k + 1,by go_num,by omega,Lib.hid (fun i hi h=>by
           by_cases e:i=k
           ·subst e;exact hba.out
           ·exact hS.out i (by omega) h),(hb_w6.cell lX).trans x3,(hb_w6.cell lX).trans x4,(hb_w6.cell lX).trans x5,(hb_w6.cell lX).trans x6,lX,bX⟩
         case measure=>simp [intOf];omega
      ·obtain rfl:k=1:=by omega
       obtain rfl:b=true:=HSUB.out.2 hS.out
       go_wp2
       go_ret
       exact ⟨rfl,bX⟩
    ·have HNE:=Lib.hid hm
     have nm:(mn != 1)=true:=by simpa using hm
     clear hm
     obtain rfl:b=false:=by
      cases b
      ·rfl
      ·exact absurd (HB.out.1 rfl).2.1 HNE.out
     have HCA:=Lib.hid fun (w:World) hr=>rcheck_ok (n:=1) (A:=A) (ws:=aw) (w:=w) ca hr HRA.out
     have HCM:=Lib.hid fun (w:World) hr=>rcheck_ok (n:=mn) (A:=M) (ws:=mw) (w:=w) cm hr HRM.out
     go_enter Tryz.func169,Tryz.ntmps169
     go_wp2_with fail
     refine wp_region_held_drew (S:=(fun X:World=>X.cell? ⟨w.heap.size,0,none⟩=some (.int .i64 f)∧X.cell? ⟨w.heap.size,1,none⟩=some (.int .i64 p)∧X.cell? ⟨w.heap.size,2,none⟩=some (.int .i64 0)∧X.cell? ⟨w.heap.size,3,none⟩=some (.int .i64 1)∧X.cell? ⟨w.heap.size,4,none⟩=some (.slice A aw.length ca)∧X.cell? ⟨w.heap.size,5,none⟩=some (.int .i64 mn)∧X.cell? ⟨w.heap.size,6,none⟩=some (.slice M mw.length cm)∧X.cell? ⟨w.heap.size,7,none⟩=some (.bool s))) (by kernel_rfl) ?_ fun _=>?_
     ·exact kS
     refine tY 0 ?_
     try simp only [Act.put,qZ]
     refine tY 1 ?_
     try simp only [Act.put,qZ]
     refine tR 2 fun K hK=>?_
     try simp only [qZ]
     go_simp
     go_at_call 135
     refine (HCA.out _ (hA.later bX)).mono ?_
     rintro e w1 ⟨rfl,hb_w1⟩
     have hs_w1:=hb_w1.size
     (try simp only [zZ] at hs_w1)
     have mw10:w1.cell? ⟨w.heap.size,0,none⟩=some (.int .i64 f):=cX hb_w1
     have mw11:w1.cell? ⟨w.heap.size,1,none⟩=some (.int .i64 p):=cX hb_w1
     have mw12:w1.cell? ⟨w.heap.size,2,none⟩=some (.int .i64 0):=cX hb_w1
     have mw13:w1.cell? ⟨w.heap.size,3,none⟩=some (.int .i64 1):=cX hb_w1
     have mw14:w1.cell? ⟨w.heap.size,4,none⟩=some (.slice A aw.length ca):=cX hb_w1
     have mw15:w1.cell? ⟨w.heap.size,5,none⟩=some (.int .i64 mn):=cX hb_w1
     have mw16:w1.cell? ⟨w.heap.size,6,none⟩=some (.slice M mw.length cm):=cX hb_w1
     have mw17:w1.cell? ⟨w.heap.size,7,none⟩=some (.bool s):=cX hb_w1
     try go_wp2_with fail
     refine hK.out _ _ ?_ fun _=>?_
     ·exact kS
     clear hK K
     try simp only [Act.put,qZ]
     refine tY 3 ?_
     try simp only [Act.put,qZ]
     refine tY 4 ?_
     try simp only [Act.put,qZ]
     refine tY 5 ?_
     try simp only [Act.put,qZ]
     refine tY 6 ?_
     try simp only [Act.put,qZ]
     refine tR 7 fun K hK=>?_
     try simp only [qZ]
     go_simp
     go_at_call 135
     refine (HCM.out _ (hM.later bX)).mono ?_
     rintro e w2 ⟨rfl,hb_w2⟩
     have hs_w2:=hb_w2.size
     (try simp only [zZ] at hs_w2)
     have mw20:w2.cell? ⟨w.heap.size,0,none⟩=some (.int .i64 f):=cX hb_w2
     have mw21:w2.cell? ⟨w.heap.size,1,none⟩=some (.int .i64 p):=cX hb_w2
     have mw22:w2.cell? ⟨w.heap.size,2,none⟩=some (.int .i64 0):=cX hb_w2
     have mw23:w2.cell? ⟨w.heap.size,3,none⟩=some (.int .i64 1):=cX hb_w2
     have mw24:w2.cell? ⟨w.heap.size,4,none⟩=some (.slice A aw.length ca):=cX hb_w2
     have mw25:w2.cell? ⟨w.heap.size,5,none⟩=some (.int .i64 mn):=cX hb_w2
     have mw26:w2.cell? ⟨w.heap.size,6,none⟩=some (.slice M mw.length cm):=cX hb_w2
     have mw27:w2.cell? ⟨w.heap.size,7,none⟩=some (.bool s):=cX hb_w2
     try go_wp2_with fail
     refine hK.out _ _ ?_ fun _=>?_
     ·exact kS
     clear hK K
     try simp only [Act.put,qZ]
     refine tY 8 ?_
     try simp only [Act.put,qZ]
     refine tR 9 fun K hK=>?_
     try simp only [qZ]
     go_simp
     refine hK.out _ _ ?_ fun _=>?_
     ·exact kS
     clear hK K
     try simp only [Act.put,qZ]
     refine tY 10 ?_
     try simp only [Act.put,qZ]
     refine tY 11 ?_
     try simp only [Act.put,qZ]
     refine tY 12 ?_
     try simp only [Act.put,qZ]
     refine tY 13 ?_
     try simp only [Act.put,qZ]
     refine tY 14 ?_
     try simp only [Act.put,qZ]
     refine tY 15 ?_
     try simp only [Act.put,qZ]
     refine tR 16 fun K hK=>?_
     try simp only [qZ]
     go_simp
     go_at_call 163
     refine (HMY.out _).mono ?_
     rintro e w0 ⟨rfl,rfl⟩
     try go_wp2_with fail
     refine hK.out _ _ ?_ fun _=>?_
     ·exact kS
     clear hK K
     try simp only [Act.put,qZ]
     refine tY 17 ?_
     try simp only [Act.put,qZ]
     refine tR 18 fun K hK=>?_
     try simp only [qZ]
     go_simp
     refine hK.out _ _ ?_ fun _=>?_
     ·exact kS
     clear hK K
     try simp only [Act.put,qZ]
     refine tY 19 ?_
     try simp only [Act.put,qZ]
     refine tY 20 ?_
     try simp only [Act.put,qZ]
     refine tY 21 ?_
     try simp only [Act.put,qZ]
     refine tY 22 ?_
     try simp only [Act.put,qZ]
     refine tY 23 ?_
     try simp only [Act.put,qZ]
     refine tY 24 ?_
     try simp only [Act.put,qZ]
     refine tR 25 fun K hK=>?_
     try simp only [qZ]
     go_simp
     go_at_call 163
     refine (HMY.out _).mono ?_
     rintro e w0 ⟨rfl,rfl⟩
     try go_wp2_with fail
     refine hK.out _ _ ?_ fun _=>?_
     ·exact kS
     clear hK K
     try simp only [Act.put,qZ]
     refine tY 26 ?_
     try simp only [Act.put,qZ]
     refine tR 27 fun K hK=>?_
     try simp only [qZ]
     go_simp
     refine hK.out _ _ ?_ fun _=>?_
     ·exact kS
     clear hK K
     try simp only [Act.put,qZ]
     refine wpAnyH_done (by kernel_rfl) ?_ _
     go_wp2
     go_ret
     exact ⟨rfl,bX⟩
   ·have HNE:=Lib.hid ha
    have nm:(an != 1)=true:=by simpa using ha
    clear ha
    obtain rfl:b=false:=by
     cases b
     ·rfl
     ·exact absurd (HB.out.1 rfl).1 HNE.out
    have HCA:=Lib.hid fun (w:World) hr=>rcheck_ok (n:=an) (A:=A) (ws:=aw) (w:=w) ca hr HRA.out
    have HCM:=Lib.hid fun (w:World) hr=>rcheck_ok (n:=mn) (A:=M) (ws:=mw) (w:=w) cm hr HRM.out
    go_enter Tryz.func169,Tryz.ntmps169
    go_wp2_with fail
    refine wp_region_held_drew (S:=(fun X:World=>X.cell? ⟨w.heap.size,0,none⟩=some (.int .i64 f)∧X.cell? ⟨w.heap.size,1,none⟩=some (.int .i64 p)∧X.cell? ⟨w.heap.size,2,none⟩=some (.int .i64 0)∧X.cell? ⟨w.heap.size,3,none⟩=some (.int .i64 an)∧X.cell? ⟨w.heap.size,4,none⟩=some (.slice A aw.length ca)∧X.cell? ⟨w.heap.size,5,none⟩=some (.int .i64 mn)∧X.cell? ⟨w.heap.size,6,none⟩=some (.slice M mw.length cm)∧X.cell? ⟨w.heap.size,7,none⟩=some (.bool s))) (by kernel_rfl) ?_ fun _=>?_
    ·exact kS
    refine tY 0 ?_
    try simp only [Act.put,qZ]
    refine tY 1 ?_
    try simp only [Act.put,qZ]
    refine tR 2 fun K hK=>?_
    try simp only [qZ]
    go_simp
    go_at_call 135
    refine (HCA.out _ (hA.later bX)).mono ?_
    rintro e w1 ⟨rfl,hb_w1⟩
    have hs_w1:=hb_w1.size
    (try simp only [zZ] at hs_w1)
    have mw10:w1.cell? ⟨w.heap.size,0,none⟩=some (.int .i64 f):=cX hb_w1
    have mw11:w1.cell? ⟨w.heap.size,1,none⟩=some (.int .i64 p):=cX hb_w1
    have mw12:w1.cell? ⟨w.heap.size,2,none⟩=some (.int .i64 0):=cX hb_w1
    have mw13:w1.cell? ⟨w.heap.size,3,none⟩=some (.int .i64 an):=cX hb_w1
    have mw14:w1.cell? ⟨w.heap.size,4,none⟩=some (.slice A aw.length ca):=cX hb_w1
    have mw15:w1.cell? ⟨w.heap.size,5,none⟩=some (.int .i64 mn):=cX hb_w1
    have mw16:w1.cell? ⟨w.heap.size,6,none⟩=some (.slice M mw.length cm):=cX hb_w1
    have mw17:w1.cell? ⟨w.heap.size,7,none⟩=some (.bool s):=cX hb_w1
    try go_wp2_with fail
    refine hK.out _ _ ?_ fun _=>?_
    ·exact kS
    clear hK K
    try simp only [Act.put,qZ]
    refine tY 3 ?_
    try simp only [Act.put,qZ]
    refine tY 4 ?_
    try simp only [Act.put,qZ]
    refine tY 5 ?_
    try simp only [Act.put,qZ]
    refine tY 6 ?_
    try simp only [Act.put,qZ]
    refine tR 7 fun K hK=>?_
    try simp only [qZ]
    go_simp
    go_at_call 135
    refine (HCM.out _ (hM.later bX)).mono ?_
    rintro e w2 ⟨rfl,hb_w2⟩
    have hs_w2:=hb_w2.size
    (try simp only [zZ] at hs_w2)
    have mw20:w2.cell? ⟨w.heap.size,0,none⟩=some (.int .i64 f):=cX hb_w2
    have mw21:w2.cell? ⟨w.heap.size,1,none⟩=some (.int .i64 p):=cX hb_w2
    have mw22:w2.cell? ⟨w.heap.size,2,none⟩=some (.int .i64 0):=cX hb_w2
    have mw23:w2.cell? ⟨w.heap.size,3,none⟩=some (.int .i64 an):=cX hb_w2
    have mw24:w2.cell? ⟨w.heap.size,4,none⟩=some (.slice A aw.length ca):=cX hb_w2
    have mw25:w2.cell? ⟨w.heap.size,5,none⟩=some (.int .i64 mn):=cX hb_w2
    have mw26:w2.cell? ⟨w.heap.size,6,none⟩=some (.slice M mw.length cm):=cX hb_w2
    have mw27:w2.cell? ⟨w.heap.size,7,none⟩=some (.bool s):=cX hb_w2
    try go_wp2_with fail
    refine hK.out _ _ ?_ fun _=>?_
    ·exact kS
    clear hK K
    try simp only [Act.put,qZ]
    refine tY 8 ?_
    try simp only [Act.put,qZ]
    refine tR 9 fun K hK=>?_
    try simp only [qZ]
    go_simp
    refine hK.out _ _ ?_ fun _=>?_
    ·exact kS
    clear hK K
    try simp only [Act.put,qZ]
    refine tY 10 ?_
    try simp only [Act.put,qZ]
    refine tY 11 ?_
    try simp only [Act.put,qZ]
    refine tY 12 ?_
    try simp only [Act.put,qZ]
    refine tY 13 ?_
    try simp only [Act.put,qZ]
    refine tY 14 ?_
    try simp only [Act.put,qZ]
    refine tY 15 ?_
    try simp only [Act.put,qZ]
    refine tR 16 fun K hK=>?_
    try simp only [qZ]
    go_simp
    go_at_call 163
    refine (HMY.out _).mono ?_
    rintro e w0 ⟨rfl,rfl⟩
    try go_wp2_with fail
    refine hK.out _ _ ?_ fun _=>?_
    ·exact kS
    clear hK K
    try simp only [Act.put,qZ]
    refine tY 17 ?_
    try simp only [Act.put,qZ]
    refine tR 18 fun K hK=>?_
    try simp only [qZ]
    go_simp
    refine hK.out _ _ ?_ fun _=>?_
    ·exact kS
    clear hK K
    try simp only [Act.put,qZ]
    refine tY 19 ?_
    try simp only [Act.put,qZ]
    refine tN 20 ?_
    try simp only [Act.put,qZ]
    refine tN 21 ?_
    try simp only [Act.put,qZ]
    refine tN 22 ?_
    try simp only [Act.put,qZ]
    refine tN 23 ?_
    try simp only [Act.put,qZ]
    refine tN 24 ?_
    try simp only [Act.put,qZ]
    refine tN 25 ?_
    try simp only [Act.put,qZ]
    refine tN 26 ?_
    try simp only [Act.put,qZ]
    refine tR 27 fun K hK=>?_
    try simp only [qZ]
    go_simp
    refine hK.out _ _ ?_ fun _=>?_
    ·exact kS
    clear hK K
    try simp only [Act.put,qZ]
    refine wpAnyH_done (by kernel_rfl) ?_ _
    go_wp2
    go_ret
    exact ⟨rfl,bX⟩
  ·have HRM:=Lib.hid hrm
   clear hrm
   obtain rfl:b=false:=by
    cases b
    ·rfl
    ·exact absurd (HB.out.1 rfl).2.2.2.1 HRM.out
   have HCA:=Lib.hid fun (w:World) hr=>rcheck_ok (n:=an) (A:=A) (ws:=aw) (w:=w) ca hr HRA.out
   have HCM:=Lib.hid fun (w:World) hr=>rcheck_bad (n:=mn) (A:=M) (ws:=mw) (w:=w) cm hr HRM.out
   go_enter Tryz.func169,Tryz.ntmps169
   go_wp2_with fail
   refine wp_region_held_drew (S:=(fun X:World=>X.cell? ⟨w.heap.size,0,none⟩=some (.int .i64 f)∧X.cell? ⟨w.heap.size,1,none⟩=some (.int .i64 p)∧X.cell? ⟨w.heap.size,2,none⟩=some (.int .i64 0)∧X.cell? ⟨w.heap.size,3,none⟩=some (.int .i64 an)∧X.cell? ⟨w.heap.size,4,none⟩=some (.slice A aw.length ca)∧X.cell? ⟨w.heap.size,5,none⟩=some (.int .i64 mn)∧X.cell? ⟨w.heap.size,6,none⟩=some (.slice M mw.length cm)∧X.cell? ⟨w.heap.size,7,none⟩=some (.bool s))) (by kernel_rfl) ?_ fun _=>?_
   ·exact kS
   refine tY 0 ?_
   try simp only [Act.put,qZ]
   refine tY 1 ?_
   try simp only [Act.put,qZ]
   refine tR 2 fun K hK=>?_
   try simp only [qZ]
   go_simp
   go_at_call 135
   refine (HCA.out _ (hA.later bX)).mono ?_
   rintro e w1 ⟨rfl,hb_w1⟩
   have hs_w1:=hb_w1.size
   (try simp only [zZ] at hs_w1)
   have mw10:w1.cell? ⟨w.heap.size,0,none⟩=some (.int .i64 f):=cX hb_w1
   have mw11:w1.cell? ⟨w.heap.size,1,none⟩=some (.int .i64 p):=cX hb_w1
   have mw12:w1.cell? ⟨w.heap.size,2,none⟩=some (.int .i64 0):=cX hb_w1
   have mw13:w1.cell? ⟨w.heap.size,3,none⟩=some (.int .i64 an):=cX hb_w1
   have mw14:w1.cell? ⟨w.heap.size,4,none⟩=some (.slice A aw.length ca):=cX hb_w1
   have mw15:w1.cell? ⟨w.heap.size,5,none⟩=some (.int .i64 mn):=cX hb_w1
   have mw16:w1.cell? ⟨w.heap.size,6,none⟩=some (.slice M mw.length cm):=cX hb_w1
   have mw17:w1.cell? ⟨w.heap.size,7,none⟩=some (.bool s):=cX hb_w1
   try go_wp2_with fail
   refine hK.out _ _ ?_ fun _=>?_
   ·exact kS
   clear hK K
   try simp only [Act.put,qZ]
   refine tY 3 ?_
   try simp only [Act.put,qZ]
   refine tY 4 ?_
   try simp only [Act.put,qZ]
   refine tY 5 ?_
   try simp only [Act.put,qZ]
   refine tY 6 ?_
   try simp only [Act.put,qZ]
   refine tR 7 fun K hK=>?_
   try simp only [qZ]
   go_simp
   go_at_call 135
   refine (HCM.out _ (hM.later bX)).mono ?_
   rintro e w2 ⟨rfl,hb_w2⟩
   have hs_w2:=hb_w2.size
   (try simp only [zZ] at hs_w2)
   have mw20:w2.cell? ⟨w.heap.size,0,none⟩=some (.int .i64 f):=cX hb_w2
   have mw21:w2.cell? ⟨w.heap.size,1,none⟩=some (.int .i64 p):=cX hb_w2
   have mw22:w2.cell? ⟨w.heap.size,2,none⟩=some (.int .i64 0):=cX hb_w2
   have mw23:w2.cell? ⟨w.heap.size,3,none⟩=some (.int .i64 an):=cX hb_w2
   have mw24:w2.cell? ⟨w.heap.size,4,none⟩=some (.slice A aw.length ca):=cX hb_w2
   have mw25:w2.cell? ⟨w.heap.size,5,none⟩=some (.int .i64 mn):=cX hb_w2
   have mw26:w2.cell? ⟨w.heap.size,6,none⟩=some (.slice M mw.length cm):=cX hb_w2
   have mw27:w2.cell? ⟨w.heap.size,7,none⟩=some (.bool s):=cX hb_w2
   try go_wp2_with fail
   refine hK.out _ _ ?_ fun _=>?_
   ·exact kS
   clear hK K
   try simp only [Act.put,qZ]
   refine tY 8 ?_
   try simp only [Act.put,qZ]
   refine tR 9 fun K hK=>?_
   try simp only [qZ]
   go_simp
   refine hK.out _ _ ?_ fun _=>?_
   ·exact kS
   clear hK K
   try simp only [Act.put,qZ]
   refine tY 10 ?_
   try simp only [Act.put,qZ]
   refine tN 11 ?_
   try simp only [Act.put,qZ]
   refine tN 12 ?_
   try simp only [Act.put,qZ]
   refine tN 13 ?_
   try simp only [Act.put,qZ]
   refine tN 14 ?_
   try simp only [Act.put,qZ]
   refine tN 15 ?_
   try simp only [Act.put,qZ]
   refine tN 16 ?_
   try simp only [Act.put,qZ]
   refine tN 17 ?_
   try simp only [Act.put,qZ]
   refine tR 18 fun K hK=>?_
   try simp only [qZ]
   go_simp
   refine hK.out _ _ ?_ fun _=>?_
   ·exact kS
   clear hK K
   try simp only [Act.put,qZ]
   refine tY 19 ?_
   try simp only [Act.put,qZ]
   refine tN 20 ?_
   try simp only [Act.put,qZ]
   refine tN 21 ?_
   try simp only [Act.put,qZ]
   refine tN 22 ?_
   try simp only [Act.put,qZ]
   refine tN 23 ?_
   try simp only [Act.put,qZ]
   refine tN 24 ?_
   try simp only [Act.put,qZ]
   refine tN 25 ?_
   try simp only [Act.put,qZ]
   refine tN 26 ?_
   try simp only [Act.put,qZ]
   refine tR 27 fun K hK=>?_
   try simp only [qZ]
   go_simp
   refine hK.out _ _ ?_ fun _=>?_
   ·exact kS
   clear hK K
   try simp only [Act.put,qZ]
   refine wpAnyH_done (by kernel_rfl) ?_ _
   go_wp2
   go_ret
   exact ⟨rfl,bX⟩
 ·have HRA:=Lib.hid hra
  clear hra
  obtain rfl:b=false:=by
   cases b
   ·rfl
   ·exact absurd (HB.out.1 rfl).2.2.1 HRA.out
  have HCA:=Lib.hid fun (w:World) hr=>rcheck_bad (n:=an) (A:=A) (ws:=aw) (w:=w) ca hr HRA.out
  go_enter Tryz.func169,Tryz.ntmps169
  go_wp2_with fail
  refine wp_region_held_drew (S:=(fun X:World=>X.cell? ⟨w.heap.size,0,none⟩=some (.int .i64 f)∧X.cell? ⟨w.heap.size,1,none⟩=some (.int .i64 p)∧X.cell? ⟨w.heap.size,2,none⟩=some (.int .i64 0)∧X.cell? ⟨w.heap.size,3,none⟩=some (.int .i64 an)∧X.cell? ⟨w.heap.size,4,none⟩=some (.slice A aw.length ca)∧X.cell? ⟨w.heap.size,5,none⟩=some (.int .i64 mn)∧X.cell? ⟨w.heap.size,6,none⟩=some (.slice M mw.length cm)∧X.cell? ⟨w.heap.size,7,none⟩=some (.bool s))) (by kernel_rfl) ?_ fun _=>?_
  ·exact kS
  refine tY 0 ?_
  try simp only [Act.put,qZ]
  refine tY 1 ?_
  try simp only [Act.put,qZ]
  refine tR 2 fun K hK=>?_
  try simp only [qZ]
  go_simp
  go_at_call 135
  refine (HCA.out _ (hA.later bX)).mono ?_
  rintro e w1 ⟨rfl,hb_w1⟩
  have hs_w1:=hb_w1.size
  (try simp only [zZ] at hs_w1)
  have mw10:w1.cell? ⟨w.heap.size,0,none⟩=some (.int .i64 f):=cX hb_w1
  have mw11:w1.cell? ⟨w.heap.size,1,none⟩=some (.int .i64 p):=cX hb_w1
  have mw12:w1.cell? ⟨w.heap.size,2,none⟩=some (.int .i64 0):=cX hb_w1
  have mw13:w1.cell? ⟨w.heap.size,3,none⟩=some (.int .i64 an):=cX hb_w1
  have mw14:w1.cell? ⟨w.heap.size,4,none⟩=some (.slice A aw.length ca):=cX hb_w1
  have mw15:w1.cell? ⟨w.heap.size,5,none⟩=some (.int .i64 mn):=cX hb_w1
  have mw16:w1.cell? ⟨w.heap.size,6,none⟩=some (.slice M mw.length cm):=cX hb_w1
  have mw17:w1.cell? ⟨w.heap.size,7,none⟩=some (.bool s):=cX hb_w1
  try go_wp2_with fail
  refine hK.out _ _ ?_ fun _=>?_
  ·exact kS
  clear hK K
  try simp only [Act.put,qZ]
  refine tY 3 ?_
  try simp only [Act.put,qZ]
  refine tY 4 ?_
  try simp only [Act.put,qZ]
  refine tN 5 ?_
  try simp only [Act.put,qZ]
  refine tN 6 ?_
  try simp only [Act.put,qZ]
  refine tN 7 ?_
  try simp only [Act.put,qZ]
  refine tN 8 ?_
  try simp only [Act.put,qZ]
  refine tR 9 fun K hK=>?_
  try simp only [qZ]
  go_simp
  refine hK.out _ _ ?_ fun _=>?_
  ·exact kS
  clear hK K
  try simp only [Act.put,qZ]
  refine tY 10 ?_
  try simp only [Act.put,qZ]
  refine tN 11 ?_
  try simp only [Act.put,qZ]
  refine tN 12 ?_
  try simp only [Act.put,qZ]
  refine tN 13 ?_
  try simp only [Act.put,qZ]
  refine tN 14 ?_
  try simp only [Act.put,qZ]
  refine tN 15 ?_
  try simp only [Act.put,qZ]
  refine tN 16 ?_
  try simp only [Act.put,qZ]
  refine tN 17 ?_
  try simp only [Act.put,qZ]
  refine tR 18 fun K hK=>?_
  try simp only [qZ]
  go_simp
  refine hK.out _ _ ?_ fun _=>?_
  ·exact kS
  clear hK K
  try simp only [Act.put,qZ]
  refine tY 19 ?_
  try simp only [Act.put,qZ]
  refine tN 20 ?_
  try simp only [Act.put,qZ]
  refine tN 21 ?_
  try simp only [Act.put,qZ]
  refine tN 22 ?_
  try simp only [Act.put,qZ]
  refine tN 23 ?_
  try simp only [Act.put,qZ]
  refine tN 24 ?_
  try simp only [Act.put,qZ]
  refine tN 25 ?_
  try simp only [Act.put,qZ]
  refine tN 26 ?_
  try simp only [Act.put,qZ]
  refine tR 27 fun K hK=>?_
  try simp only [qZ]
  go_simp
  refine hK.out _ _ ?_ fun _=>?_
  ·exact kS
  clear hK K
  try simp only [Act.put,qZ]
  refine wpAnyH_done (by kernel_rfl) ?_ _
  go_wp2
  go_ret
  exact ⟨rfl,bX⟩
end
section
variable {w:World} {A M:Option Addr} (ca cm:Nat)
set_option maxHeartbeats 16000000 in
theorem xright_zN (z:Int) (N:Nat) (hz:(z=2∧N=8) ∨ (z=4∧N=4) ∨ (z=8∧N=2) ∨ (z=16∧N=1)) (f an:Int) (aw:List Nat) (mn:Int) (mw:List Nat) (s:Bool) (hpl:Placed f 1) (hA:Row w w.heap.size A aw) (hM:Row w w.heap.size M mw) (b:Bool) (hb:b=true ↔ Rec ⟨f,1,z,an,aw,mn,mw,s⟩) :
  Calls Tryz.prog 169 #[.agg #[.int .i64 f,.int .i64 1,.int .i64 z,.int .i64 an,.slice A aw.length ca,.int .i64 mn,.slice M mw.length cm,.bool s]] w fun e w'=>e=.returned (.bool b)∧Below w.heap.size w w':=by
 unfold Placed at hpl
 obtain ⟨p0,p1⟩:=hpl
 have d1:decide (f < 0)=false:=decide_eq_false (by omega)
 have d2:decide ((1024:Int) - 1 < f)=false:=decide_eq_false (by omega)
 have d5:decide ((1023:Int) < f)=false:=decide_eq_false (by omega)
 have hslots:slotsOf z=(N:Int):=by rcases hz with ⟨rfl,rfl⟩ | ⟨rfl,rfl⟩ | ⟨rfl,rfl⟩ | ⟨rfl,rfl⟩ <;> decide
 have hN1:1 ≤ N:=by omega
 have hN8:N ≤ 8:=by omega
 unfold Rec at hb
 simp only [hslots,Int.toNat_natCast] at hb
 have HB:=Lib.hid hb
 have HMY:=Lib.hid fun (w:World)=>xmany_any (w:=w) (p:=1) (z:=z) (by unfold Sized;omega)
 rw [hslots] at HMY
 clear hb
 have g0:(z == (0:Int))=false:=by rcases hz with ⟨rfl,_⟩ | ⟨rfl,_⟩ | ⟨rfl,_⟩ | ⟨rfl,_⟩ <;> rfl
 have key:((z == (2:Int))=true) ∨ ((z == (2:Int))=false∧(z == (4:Int))=true) ∨ ((z == (2:Int))=false∧(z == (4:Int))=false∧(z == (8:Int))=true) ∨ ((z == (2:Int))=false∧(z == (4:Int))=false∧(z == (8:Int))=false∧(z == (16:Int))=true):=by
  rcases hz with ⟨rfl,_⟩ | ⟨rfl,_⟩ | ⟨rfl,_⟩ | ⟨rfl,_⟩ <;> decide
 clear hz hslots
 rcases key with g2 | ⟨g2,g4⟩ | ⟨g2,g4,g8⟩ | ⟨g2,g4,g8,g16⟩
 all_goals
  by_cases hra:Right an aw
  ·have HRA:=Lib.hid hra
   clear hra
   by_cases hrm:Right mn mw
   ·have HRM:=Lib.hid hrm
    clear hrm
    by_cases ha:an=N
    ·subst ha
     by_cases hm:mn=N
     ·subst hm
      have HSUB:Hid (b=true ↔ ∀ i,i < N → tb mw i=true → tb aw i=true):=Lib.hid ⟨fun h=>(HB.out.1 h).2.2.2.2,fun h=>HB.out.2 ⟨rfl,rfl,HRA.out,HRM.out,h⟩⟩
      have la:aw.length=1:=by have:=HRA.out.2.2.1;omega
      have lm:mw.length=1:=by have:=HRM.out.2.2.1;omega
      have HLA:=Lib.hid la
      have HLM:=Lib.hid lm
      clear la lm
      have HCA:=Lib.hid fun (w:World) hr=>rcheck_ok (n:=N) (A:=A) (ws:=aw) (w:=w) ca hr HRA.out
      have HCM:=Lib.hid fun (w:World) hr=>rcheck_ok (n:=N) (A:=M) (ws:=mw) (w:=w) cm hr HRM.out
      go_enter Tryz.func169,Tryz.ntmps169
      go_wp2_with fail
      refine wp_region_held_drew (S:=(fun X:World=>X.cell? ⟨w.heap.size,0,none⟩=some (.int .i64 f)∧X.cell? ⟨w.heap.size,1,none⟩=some (.int .i64 1)∧X.cell? ⟨w.heap.size,2,none⟩=some (.int .i64 z)∧X.cell? ⟨w.heap.size,3,none⟩=some (.int .i64 N)∧X.cell? ⟨w.heap.size,4,none⟩=some (.slice A aw.length ca)∧X.cell? ⟨w.heap.size,5,none⟩=some (.int .i64 N)∧X.cell? ⟨w.heap.size,6,none⟩=some (.slice M mw.length cm)∧X.cell? ⟨w.heap.size,7,none⟩=some (.bool s))) (by kernel_rfl) ?_ fun _=>?_
      ·exact kS
      refine tY 0 ?_
      try simp only [Act.put,qZ]
      refine tY 1 ?_
      try simp only [Act.put,qZ]
      refine tR 2 fun K hK=>?_
      try simp only [qZ]
      go_simp
      go_at_call 135
      refine (HCA.out _ (hA.later bX)).mono ?_
      rintro e w1 ⟨rfl,hb_w1⟩
      have hs_w1:=hb_w1.size
      (try simp only [zZ] at hs_w1)
      have mw10:w1.cell? ⟨w.heap.size,0,none⟩=some (.int .i64 f):=cX hb_w1
      have mw11:w1.cell? ⟨w.heap.size,1,none⟩=some (.int .i64 1):=cX hb_w1
      have mw12:w1.cell? ⟨w.heap.size,2,none⟩=some (.int .i64 z):=cX hb_w1
      have mw13:w1.cell? ⟨w.heap.size,3,none⟩=some (.int .i64 N):=cX hb_w1
      have mw14:w1.cell? ⟨w.heap.size,4,none⟩=some (.slice A aw.length ca):=cX hb_w1
      have mw15:w1.cell? ⟨w.heap.size,5,none⟩=some (.int .i64 N):=cX hb_w1
      have mw16:w1.cell? ⟨w.heap.size,6,none⟩=some (.slice M mw.length cm):=cX hb_w1
      have mw17:w1.cell? ⟨w.heap.size,7,none⟩=some (.bool s):=cX hb_w1
      try go_wp2_with fail
      refine hK.out _ _ ?_ fun _=>?_
      ·exact kS
      clear hK K
      try simp only [Act.put,qZ]
      refine tY 3 ?_
      try simp only [Act.put,qZ]
      refine tY 4 ?_
      try simp only [Act.put,qZ]
      refine tY 5 ?_
      try simp only [Act.put,qZ]
      refine tY 6 ?_
      try simp only [Act.put,qZ]
      refine tR 7 fun K hK=>?_
      try simp only [qZ]
      go_simp
      go_at_call 135
      refine (HCM.out _ (hM.later bX)).mono ?_
      rintro e w2 ⟨rfl,hb_w2⟩
      have hs_w2:=hb_w2.size
      (try simp only [zZ] at hs_w2)
      have mw20:w2.cell? ⟨w.heap.size,0,none⟩=some (.int .i64 f):=cX hb_w2
      have mw21:w2.cell? ⟨w.heap.size,1,none⟩=some (.int .i64 1):=cX hb_w2
      have mw22:w2.cell? ⟨w.heap.size,2,none⟩=some (.int .i64 z):=cX hb_w2
      have mw23:w2.cell? ⟨w.heap.size,3,none⟩=some (.int .i64 N):=cX hb_w2
      have mw24:w2.cell? ⟨w.heap.size,4,none⟩=some (.slice A aw.length ca):=cX hb_w2
      have mw25:w2.cell? ⟨w.heap.size,5,none⟩=some (.int .i64 N):=cX hb_w2
      have mw26:w2.cell? ⟨w.heap.size,6,none⟩=some (.slice M mw.length cm):=cX hb_w2
      have mw27:w2.cell? ⟨w.heap.size,7,none⟩=some (.bool s):=cX hb_w2
      try go_wp2_with fail
      refine hK.out _ _ ?_ fun _=>?_
      ·exact kS
      clear hK K
      try simp only [Act.put,qZ]
      refine tY 8 ?_
      try simp only [Act.put,qZ]
      refine tR 9 fun K hK=>?_
      try simp only [qZ]
      go_simp
      refine hK.out _ _ ?_ fun _=>?_
      ·exact kS
      clear hK K
      try simp only [Act.put,qZ]
      refine tY 10 ?_
      try simp only [Act.put,qZ]
      refine tY 11 ?_
      try simp only [Act.put,qZ]
      refine tY 12 ?_
      try simp only [Act.put,qZ]
      refine tY 13 ?_
      try simp only [Act.put,qZ]
      refine tY 14 ?_
      try simp only [Act.put,qZ]
      refine tY 15 ?_
      try simp only [Act.put,qZ]
      refine tR 16 fun K hK=>?_
      try simp only [qZ]
      go_simp
      go_at_call 163
      refine (HMY.out _).mono ?_
      rintro e w0 ⟨rfl,rfl⟩
      try go_wp2_with fail
      refine hK.out _ _ ?_ fun _=>?_
      ·exact kS
      clear hK K
      try simp only [Act.put,qZ]
      refine tY 17 ?_
      try simp only [Act.put,qZ]
      refine tR 18 fun K hK=>?_
      try simp only [qZ]
      go_simp
      refine hK.out _ _ ?_ fun _=>?_
      ·exact kS
      clear hK K
      try simp only [Act.put,qZ]
      refine tY 19 ?_
      try simp only [Act.put,qZ]
      refine tY 20 ?_
      try simp only [Act.put,qZ]
      refine tY 21 ?_
      try simp only [Act.put,qZ]
      refine tY 22 ?_
      try simp only [Act.put,qZ]
      refine tY 23 ?_
      try simp only [Act.put,qZ]
      refine tY 24 ?_
      try simp only [Act.put,qZ]
      refine tR 25 fun K hK=>?_
      try simp only [qZ]
      go_simp
      go_at_call 163
      refine (HMY.out _).mono ?_
      rintro e w0 ⟨rfl,rfl⟩
      try go_wp2_with fail
      refine hK.out _ _ ?_ fun _=>?_
      ·exact kS
      clear hK K
      try simp only [Act.put,qZ]
      refine tY 26 ?_
      try simp only [Act.put,qZ]
      refine tR 27 fun K hK=>?_
      try simp only [qZ]
      go_simp
      refine hK.out _ _ ?_ fun _=>?_
      ·exact kS
      clear hK K
      try simp only [Act.put,qZ]
      refine wpAnyH_done (by kernel_rfl) ?_ _
      go_wp2_with fail
      go_loopw [5] (fun ii wr=>∃ k:Nat,ii=.int .i64 (k:Nat)∧k ≤ N∧Hid (∀ i,i < k → tb mw i=true → tb aw i=true)∧wr.cell? ⟨w.heap.size,3,none⟩=some (.int .i64 N)∧wr.cell? ⟨w.heap.size,4,none⟩=some (.slice A aw.length ca)∧wr.cell? ⟨w.heap.size,5,none⟩=some (.int .i64 N)∧wr.cell? ⟨w.heap.size,6,none⟩=some (.slice M mw.length cm)∧w.heap.size + 1 ≤ wr.heap.size∧Below w.heap.size w wr) (fun ii _=>N - (intOf ii).toNat)
      case atStart=>exact ⟨0,rfl,by omega,Lib.hid (fun i hi=>by omega),by first | assumption | (simp;assumption),by first | assumption | (simp;assumption),by first | assumption | (simp;assumption),by first | assumption | (simp;assumption),lX,bX⟩
      case round=>
       obtain ⟨k,rfl,hk,hS,q3,q4,q5,q6,hsz,hb_wr⟩:=hrel
       have hsr:=hb_wr.size
       have rA:=hA.later hb_wr
       have rM:=hM.later hb_wr
       by_cases hlt:k < N
       ·have i1:(k:Int) < N:=by omega
        obtain ⟨bm,hbm⟩:∃ x,Hid (tb mw k=x):=⟨_,rfl⟩
        obtain ⟨ba,hba⟩:∃ x,Hid (tb aw k=x):=⟨_,rfl⟩
        have HIM:=Lib.hid fun (w:World) hr=>is_any (A:=M) (ws:=mw) (w:=w) (k:Nat) N cm hr (by omega) (by rw [HLM.out];omega) (by rw [HLM.out];omega)
        have HIA:=Lib.hid fun (w:World) hr=>is_any (A:=A) (ws:=aw) (w:=w) (k:Nat) N ca hr (by omega) (by rw [HLA.out];omega) (by rw [HLA.out];omega)
        simp only [Int.toNat_natCast] at HIM HIA
        rw [hbm.out] at HIM
        rw [hba.out] at HIA
        cases bm
        ·go_wp2_with (go_at_call 107;refine (HIM.out _ (rM.later bX)).mono ?_;rintro e w5 ⟨rfl,hb_w5⟩;have hs5:=hb_w5.size)
         go_roundw
         case rel=>exact ⟨k + 1,by go_num,by omega,Lib.hid (fun i hi h=>by
           by_cases e:i=k
           ·subst e;rw [hbm.out] at h;cases h
           ·exact hS.out i (by omega) h),(hb_w5.cell lX).trans q3,(hb_w5.cell lX).trans q4,(hb_w5.cell lX).trans q5,(hb_w5.cell lX).trans q6,lX,bX⟩
         case measure=>simp [intOf];omega
        ·cases ba
         ·obtain rfl:b=false:=by
           cases b
           ·rfl
           ·have:=HSUB.out.1 rfl k hlt hbm.out
            rw [hba.out] at this
            cases this
          go_wp2_with fail
          go_at_call 107
          refine (HIM.out _ (rM.later bX)).mono ?_
          rintro e w5 ⟨rfl,hb_w5⟩
          have hs5:=hb_w5.size
          have x3:=(hb_w5.cell lX).trans q3
          have x4:=(hb_w5.cell lX).trans q4
          go_wp2_with fail
          go_at_call 107
          refine (HIA.out _ ((rA.later hb_w5).later bX)).mono ?_
          rintro e w6 ⟨rfl,hb_w6⟩
          have hs6:=hb_w6.size
          go_wp2
          go_ret
          exact ⟨rfl,bX⟩
         ·go_wp2_with fail
          go_at_call 107
          refine (HIM.out _ (rM.later bX)).mono ?_
          rintro e w5 ⟨rfl,hb_w5⟩
          have hs5:=hb_w5.size
          have x3:=(hb_w5.cell lX).trans q3
          have x4:=(hb_w5.cell lX).trans q4
          have x5:=(hb_w5.cell lX).trans q5
          have x6:=(hb_w5.cell lX).trans q6
          go_wp2_with fail
          go_at_call 107
          refine (HIA.out _ ((rA.later hb_w5).later bX)).mono ?_
          rintro e w6 ⟨rfl,hb_w6⟩
          have hs6:=hb_w6.size
          go_wp2
          go_roundw
          case rel=>exact ⟨k + 1,by go_num,by omega,Lib.hid (fun i hi h=>by
            by_cases e:i=k
            ·subst e;exact hba.out
            ·exact hS.out i (by omega) h),(hb_w6.cell lX).trans x3,(hb_w6.cell lX).trans x4,(hb_w6.cell lX).trans x5,(hb_w6.cell lX).trans x6,lX,bX⟩
          case measure=>simp [intOf];omega
       ·obtain rfl:k=N:=by omega
        obtain rfl:b=true:=HSUB.out.2 hS.out
        go_wp2
        go_ret
        exact ⟨rfl,bX⟩
     ·have HNE:=Lib.hid hm
      have nm:(mn != N)=true:=by simpa using hm
      clear hm
      obtain rfl:b=false:=by
       cases b
       ·rfl
       ·exact absurd (HB.out.1 rfl).2.1 HNE.out
      have HCA:=Lib.hid fun (w:World) hr=>rcheck_ok (n:=N) (A:=A) (ws:=aw) (w:=w) ca hr HRA.out
      have HCM:=Lib.hid fun (w:World) hr=>rcheck_ok (n:=mn) (A:=M) (ws:=mw) (w:=w) cm hr HRM.out
      go_enter Tryz.func169,Tryz.ntmps169
      go_wp2_with fail
      refine wp_region_held_drew (S:=(fun X:World=>X.cell? ⟨w.heap.size,0,none⟩=some (.int .i64 f)∧X.cell? ⟨w.heap.size,1,none⟩=some (.int .i64 1)∧X.cell? ⟨w.heap.size,2,none⟩=some (.int .i64 z)∧X.cell? ⟨w.heap.size,3,none⟩=some (.int .i64 N)∧X.cell? ⟨w.heap.size,4,none⟩=some (.slice A aw.length ca)∧X.cell? ⟨w.heap.size,5,none⟩=some (.int .i64 mn)∧X.cell? ⟨w.heap.size,6,none⟩=some (.slice M mw.length cm)∧X.cell? ⟨w.heap.size,7,none⟩=some (.bool s))) (by kernel_rfl) ?_ fun _=>?_
      ·exact kS
      refine tY 0 ?_
      try simp only [Act.put,qZ]
      refine tY 1 ?_
      try simp only [Act.put,qZ]
      refine tR 2 fun K hK=>?_
      try simp only [qZ]
      go_simp
      go_at_call 135
      refine (HCA.out _ (hA.later bX)).mono ?_
      rintro e w1 ⟨rfl,hb_w1⟩
      have hs_w1:=hb_w1.size
      (try simp only [zZ] at hs_w1)
      have mw10:w1.cell? ⟨w.heap.size,0,none⟩=some (.int .i64 f):=cX hb_w1
      have mw11:w1.cell? ⟨w.heap.size,1,none⟩=some (.int .i64 1):=cX hb_w1
      have mw12:w1.cell? ⟨w.heap.size,2,none⟩=some (.int .i64 z):=cX hb_w1
      have mw13:w1.cell? ⟨w.heap.size,3,none⟩=some (.int .i64 N):=cX hb_w1
      have mw14:w1.cell? ⟨w.heap.size,4,none⟩=some (.slice A aw.length ca):=cX hb_w1
      have mw15:w1.cell? ⟨w.heap.size,5,none⟩=some (.int .i64 mn):=cX hb_w1
      have mw16:w1.cell? ⟨w.heap.size,6,none⟩=some (.slice M mw.length cm):=cX hb_w1
      have mw17:w1.cell? ⟨w.heap.size,7,none⟩=some (.bool s):=cX hb_w1
      try go_wp2_with fail
      refine hK.out _ _ ?_ fun _=>?_
      ·exact kS
      clear hK K
      try simp only [Act.put,qZ]
      refine tY 3 ?_
      try simp only [Act.put,qZ]
      refine tY 4 ?_
      try simp only [Act.put,qZ]
      refine tY 5 ?_
      try simp only [Act.put,qZ]
      refine tY 6 ?_
      try simp only [Act.put,qZ]
      refine tR 7 fun K hK=>?_
      try simp only [qZ]
      go_simp
      go_at_call 135
      refine (HCM.out _ (hM.later bX)).mono ?_
      rintro e w2 ⟨rfl,hb_w2⟩
      have hs_w2:=hb_w2.size
      (try simp only [zZ] at hs_w2)
      have mw20:w2.cell? ⟨w.heap.size,0,none⟩=some (.int .i64 f):=cX hb_w2
      have mw21:w2.cell? ⟨w.heap.size,1,none⟩=some (.int .i64 1):=cX hb_w2
      have mw22:w2.cell? ⟨w.heap.size,2,none⟩=some (.int .i64 z):=cX hb_w2
      have mw23:w2.cell? ⟨w.heap.size,3,none⟩=some (.int .i64 N):=cX hb_w2
      have mw24:w2.cell? ⟨w.heap.size,4,none⟩=some (.slice A aw.length ca):=cX hb_w2
      have mw25:w2.cell? ⟨w.heap.size,5,none⟩=some (.int .i64 mn):=cX hb_w2
      have mw26:w2.cell? ⟨w.heap.size,6,none⟩=some (.slice M mw.length cm):=cX hb_w2
      have mw27:w2.cell? ⟨w.heap.size,7,none⟩=some (.bool s):=cX hb_w2
      try go_wp2_with fail
      refine hK.out _ _ ?_ fun _=>?_
      ·exact kS
      clear hK K
      try simp only [Act.put,qZ]
      refine tY 8 ?_
      try simp only [Act.put,qZ]
      refine tR 9 fun K hK=>?_
      try simp only [qZ]
      go_simp
      refine hK.out _ _ ?_ fun _=>?_
      ·exact kS
      clear hK K
      try simp only [Act.put,qZ]
      refine tY 10 ?_
      try simp only [Act.put,qZ]
      refine tY 11 ?_
      try simp only [Act.put,qZ]
      refine tY 12 ?_
      try simp only [Act.put,qZ]
      refine tY 13 ?_
      try simp only [Act.put,qZ]
      refine tY 14 ?_
      try simp only [Act.put,qZ]
      refine tY 15 ?_
      try simp only [Act.put,qZ]
      refine tR 16 fun K hK=>?_
      try simp only [qZ]
      go_simp
      go_at_call 163
      refine (HMY.out _).mono ?_
      rintro e w0 ⟨rfl,rfl⟩
      try go_wp2_with fail
      refine hK.out _ _ ?_ fun _=>?_
      ·exact kS
      clear hK K
      try simp only [Act.put,qZ]
      refine tY 17 ?_
      try simp only [Act.put,qZ]
      refine tR 18 fun K hK=>?_
      try simp only [qZ]
      go_simp
      refine hK.out _ _ ?_ fun _=>?_
      ·exact kS
      clear hK K
      try simp only [Act.put,qZ]
      refine tY 19 ?_
      try simp only [Act.put,qZ]
      refine tY 20 ?_
      try simp only [Act.put,qZ]
      refine tY 21 ?_
      try simp only [Act.put,qZ]
      refine tY 22 ?_
      try simp only [Act.put,qZ]
      refine tY 23 ?_
      try simp only [Act.put,qZ]
      refine tY 24 ?_
      try simp only [Act.put,qZ]
      refine tR 25 fun K hK=>?_
      try simp only [qZ]
      go_simp
      go_at_call 163
      refine (HMY.out _).mono ?_
      rintro e w0 ⟨rfl,rfl⟩
      try go_wp2_with fail
      refine hK.out _ _ ?_ fun _=>?_
      ·exact kS
      clear hK K
      try simp only [Act.put,qZ]
      refine tY 26 ?_
      try simp only [Act.put,qZ]
      refine tR 27 fun K hK=>?_
      try simp only [qZ]
      go_simp
      refine hK.out _ _ ?_ fun _=>?_
      ·exact kS
      clear hK K
      try simp only [Act.put,qZ]
      refine wpAnyH_done (by kernel_rfl) ?_ _
      go_wp2
      go_ret
      exact ⟨rfl,bX⟩
    ·have HNE:=Lib.hid ha
     have nm:(an != N)=true:=by simpa using ha
     clear ha
     obtain rfl:b=false:=by
      cases b
      ·rfl
      ·exact absurd (HB.out.1 rfl).1 HNE.out
     have HCA:=Lib.hid fun (w:World) hr=>rcheck_ok (n:=an) (A:=A) (ws:=aw) (w:=w) ca hr HRA.out
     have HCM:=Lib.hid fun (w:World) hr=>rcheck_ok (n:=mn) (A:=M) (ws:=mw) (w:=w) cm hr HRM.out
     go_enter Tryz.func169,Tryz.ntmps169
     go_wp2_with fail
     refine wp_region_held_drew (S:=(fun X:World=>X.cell? ⟨w.heap.size,0,none⟩=some (.int .i64 f)∧X.cell? ⟨w.heap.size,1,none⟩=some (.int .i64 1)∧X.cell? ⟨w.heap.size,2,none⟩=some (.int .i64 z)∧X.cell? ⟨w.heap.size,3,none⟩=some (.int .i64 an)∧X.cell? ⟨w.heap.size,4,none⟩=some (.slice A aw.length ca)∧X.cell? ⟨w.heap.size,5,none⟩=some (.int .i64 mn)∧X.cell? ⟨w.heap.size,6,none⟩=some (.slice M mw.length cm)∧X.cell? ⟨w.heap.size,7,none⟩=some (.bool s))) (by kernel_rfl) ?_ fun _=>?_
     ·exact kS
     refine tY 0 ?_
     try simp only [Act.put,qZ]
     refine tY 1 ?_
     try simp only [Act.put,qZ]
     refine tR 2 fun K hK=>?_
     try simp only [qZ]
     go_simp
     go_at_call 135
     refine (HCA.out _ (hA.later bX)).mono ?_
     rintro e w1 ⟨rfl,hb_w1⟩
     have hs_w1:=hb_w1.size
     (try simp only [zZ] at hs_w1)
     have mw10:w1.cell? ⟨w.heap.size,0,none⟩=some (.int .i64 f):=cX hb_w1
     have mw11:w1.cell? ⟨w.heap.size,1,none⟩=some (.int .i64 1):=cX hb_w1
     have mw12:w1.cell? ⟨w.heap.size,2,none⟩=some (.int .i64 z):=cX hb_w1
     have mw13:w1.cell? ⟨w.heap.size,3,none⟩=some (.int .i64 an):=cX hb_w1
     have mw14:w1.cell? ⟨w.heap.size,4,none⟩=some (.slice A aw.length ca):=cX hb_w1
     have mw15:w1.cell? ⟨w.heap.size,5,none⟩=some (.int .i64 mn):=cX hb_w1
     have mw16:w1.cell? ⟨w.heap.size,6,none⟩=some (.slice M mw.length cm):=cX hb_w1
     have mw17:w1.cell? ⟨w.heap.size,7,none⟩=some (.bool s):=cX hb_w1
     try go_wp2_with fail
     refine hK.out _ _ ?_ fun _=>?_
     ·exact kS
     clear hK K
     try simp only [Act.put,qZ]
     refine tY 3 ?_
     try simp only [Act.put,qZ]
     refine tY 4 ?_
     try simp only [Act.put,qZ]
     refine tY 5 ?_
     try simp only [Act.put,qZ]
     refine tY 6 ?_
     try simp only [Act.put,qZ]
     refine tR 7 fun K hK=>?_
     try simp only [qZ]
     go_simp
     go_at_call 135
     refine (HCM.out _ (hM.later bX)).mono ?_
     rintro e w2 ⟨rfl,hb_w2⟩
     have hs_w2:=hb_w2.size
     (try simp only [zZ] at hs_w2)
     have mw20:w2.cell? ⟨w.heap.size,0,none⟩=some (.int .i64 f):=cX hb_w2
     have mw21:w2.cell? ⟨w.heap.size,1,none⟩=some (.int .i64 1):=cX hb_w2
     have mw22:w2.cell? ⟨w.heap.size,2,none⟩=some (.int .i64 z):=cX hb_w2
     have mw23:w2.cell? ⟨w.heap.size,3,none⟩=some (.int .i64 an):=cX hb_w2
     have mw24:w2.cell? ⟨w.heap.size,4,none⟩=some (.slice A aw.length ca):=cX hb_w2
     have mw25:w2.cell? ⟨w.heap.size,5,none⟩=some (.int .i64 mn):=cX hb_w2
     have mw26:w2.cell? ⟨w.heap.size,6,none⟩=some (.slice M mw.length cm):=cX hb_w2
     have mw27:w2.cell? ⟨w.heap.size,7,none⟩=some (.bool s):=cX hb_w2
     try go_wp2_with fail
     refine hK.out _ _ ?_ fun _=>?_
     ·exact kS
     clear hK K
     try simp only [Act.put,qZ]
     refine tY 8 ?_
     try simp only [Act.put,qZ]
     refine tR 9 fun K hK=>?_
     try simp only [qZ]
     go_simp
     refine hK.out _ _ ?_ fun _=>?_
     ·exact kS
     clear hK K
     try simp only [Act.put,qZ]
     refine tY 10 ?_
     try simp only [Act.put,qZ]
     refine tY 11 ?_
     try simp only [Act.put,qZ]
     refine tY 12 ?_
     try simp only [Act.put,qZ]
     refine tY 13 ?_
     try simp only [Act.put,qZ]
     refine tY 14 ?_
     try simp only [Act.put,qZ]
     refine tY 15 ?_
     try simp only [Act.put,qZ]
     refine tR 16 fun K hK=>?_
     try simp only [qZ]
     go_simp
     go_at_call 163
     refine (HMY.out _).mono ?_
     rintro e w0 ⟨rfl,rfl⟩
     try go_wp2_with fail
     refine hK.out _ _ ?_ fun _=>?_
     ·exact kS
     clear hK K
     try simp only [Act.put,qZ]
     refine tY 17 ?_
     try simp only [Act.put,qZ]
     refine tR 18 fun K hK=>?_
     try simp only [qZ]
     go_simp
     refine hK.out _ _ ?_ fun _=>?_
     ·exact kS
     clear hK K
     try simp only [Act.put,qZ]
     refine tY 19 ?_
     try simp only [Act.put,qZ]
     refine tN 20 ?_
     try simp only [Act.put,qZ]
     refine tN 21 ?_
     try simp only [Act.put,qZ]
     refine tN 22 ?_
     try simp only [Act.put,qZ]
     refine tN 23 ?_
     try simp only [Act.put,qZ]
     refine tN 24 ?_
     try simp only [Act.put,qZ]
     refine tN 25 ?_
     try simp only [Act.put,qZ]
     refine tN 26 ?_
     try simp only [Act.put,qZ]
     refine tR 27 fun K hK=>?_
     try simp only [qZ]
     go_simp
     refine hK.out _ _ ?_ fun _=>?_
     ·exact kS
     clear hK K
     try simp only [Act.put,qZ]
     refine wpAnyH_done (by kernel_rfl) ?_ _
     go_wp2
     go_ret
     exact ⟨rfl,bX⟩
   ·have HRM:=Lib.hid hrm
    clear hrm
    obtain rfl:b=false:=by
     cases b
     ·rfl
     ·exact absurd (HB.out.1 rfl).2.2.2.1 HRM.out
    have HCA:=Lib.hid fun (w:World) hr=>rcheck_ok (n:=an) (A:=A) (ws:=aw) (w:=w) ca hr HRA.out
    have HCM:=Lib.hid fun (w:World) hr=>rcheck_bad (n:=mn) (A:=M) (ws:=mw) (w:=w) cm hr HRM.out
    go_enter Tryz.func169,Tryz.ntmps169
    go_wp2_with fail
    refine wp_region_held_drew (S:=(fun X:World=>X.cell? ⟨w.heap.size,0,none⟩=some (.int .i64 f)∧X.cell? ⟨w.heap.size,1,none⟩=some (.int .i64 1)∧X.cell? ⟨w.heap.size,2,none⟩=some (.int .i64 z)∧X.cell? ⟨w.heap.size,3,none⟩=some (.int .i64 an)∧X.cell? ⟨w.heap.size,4,none⟩=some (.slice A aw.length ca)∧X.cell? ⟨w.heap.size,5,none⟩=some (.int .i64 mn)∧X.cell? ⟨w.heap.size,6,none⟩=some (.slice M mw.length cm)∧X.cell? ⟨w.heap.size,7,none⟩=some (.bool s))) (by kernel_rfl) ?_ fun _=>?_
    ·exact kS
    refine tY 0 ?_
    try simp only [Act.put,qZ]
    refine tY 1 ?_
    try simp only [Act.put,qZ]
    refine tR 2 fun K hK=>?_
    try simp only [qZ]
    go_simp
    go_at_call 135
    refine (HCA.out _ (hA.later bX)).mono ?_
    rintro e w1 ⟨rfl,hb_w1⟩
    have hs_w1:=hb_w1.size
    (try simp only [zZ] at hs_w1)
    have mw10:w1.cell? ⟨w.heap.size,0,none⟩=some (.int .i64 f):=cX hb_w1
    have mw11:w1.cell? ⟨w.heap.size,1,none⟩=some (.int .i64 1):=cX hb_w1
    have mw12:w1.cell? ⟨w.heap.size,2,none⟩=some (.int .i64 z):=cX hb_w1
    have mw13:w1.cell? ⟨w.heap.size,3,none⟩=some (.int .i64 an):=cX hb_w1
    have mw14:w1.cell? ⟨w.heap.size,4,none⟩=some (.slice A aw.length ca):=cX hb_w1
    have mw15:w1.cell? ⟨w.heap.size,5,none⟩=some (.int .i64 mn):=cX hb_w1
    have mw16:w1.cell? ⟨w.heap.size,6,none⟩=some (.slice M mw.length cm):=cX hb_w1
    have mw17:w1.cell? ⟨w.heap.size,7,none⟩=some (.bool s):=cX hb_w1
    try go_wp2_with fail
    refine hK.out _ _ ?_ fun _=>?_
    ·exact kS
    clear hK K
    try simp only [Act.put,qZ]
    refine tY 3 ?_
    try simp only [Act.put,qZ]
    refine tY 4 ?_
    try simp only [Act.put,qZ]
    refine tY 5 ?_
    try simp only [Act.put,qZ]
    refine tY 6 ?_
    try simp only [Act.put,qZ]
    refine tR 7 fun K hK=>?_
    try simp only [qZ]
    go_simp
    go_at_call 135
    refine (HCM.out _ (hM.later bX)).mono ?_
    rintro e w2 ⟨rfl,hb_w2⟩
    have hs_w2:=hb_w2.size
    (try simp only [zZ] at hs_w2)
    have mw20:w2.cell? ⟨w.heap.size,0,none⟩=some (.int .i64 f):=cX hb_w2
    have mw21:w2.cell? ⟨w.heap.size,1,none⟩=some (.int .i64 1):=cX hb_w2
    have mw22:w2.cell? ⟨w.heap.size,2,none⟩=some (.int .i64 z):=cX hb_w2
    have mw23:w2.cell? ⟨w.heap.size,3,none⟩=some (.int .i64 an):=cX hb_w2
    have mw24:w2.cell? ⟨w.heap.size,4,none⟩=some (.slice A aw.length ca):=cX hb_w2
    have mw25:w2.cell? ⟨w.heap.size,5,none⟩=some (.int .i64 mn):=cX hb_w2
    have mw26:w2.cell? ⟨w.heap.size,6,none⟩=some (.slice M mw.length cm):=cX hb_w2
    have mw27:w2.cell? ⟨w.heap.size,7,none⟩=some (.bool s):=cX hb_w2
    try go_wp2_with fail
    refine hK.out _ _ ?_ fun _=>?_
    ·exact kS
    clear hK K
    try simp only [Act.put,qZ]
    refine tY 8 ?_
    try simp only [Act.put,qZ]
    refine tR 9 fun K hK=>?_
    try simp only [qZ]
    go_simp
    refine hK.out _ _ ?_ fun _=>?_
    ·exact kS
    clear hK K
    try simp only [Act.put,qZ]
    refine tY 10 ?_
    try simp only [Act.put,qZ]
    refine tN 11 ?_
    try simp only [Act.put,qZ]
    refine tN 12 ?_
    try simp only [Act.put,qZ]
    refine tN 13 ?_
    try simp only [Act.put,qZ]
    refine tN 14 ?_
    try simp only [Act.put,qZ]
    refine tN 15 ?_
    try simp only [Act.put,qZ]
    refine tN 16 ?_
    try simp only [Act.put,qZ]
    refine tN 17 ?_
    try simp only [Act.put,qZ]
    refine tR 18 fun K hK=>?_
    try simp only [qZ]
    go_simp
    refine hK.out _ _ ?_ fun _=>?_
    ·exact kS
    clear hK K
    try simp only [Act.put,qZ]
    refine tY 19 ?_
    try simp only [Act.put,qZ]
    refine tN 20 ?_
    try simp only [Act.put,qZ]
    refine tN 21 ?_
    try simp only [Act.put,qZ]
    refine tN 22 ?_
    try simp only [Act.put,qZ]
    refine tN 23 ?_
    try simp only [Act.put,qZ]
    refine tN 24 ?_
    try simp only [Act.put,qZ]
    refine tN 25 ?_
    try simp only [Act.put,qZ]
    refine tN 26 ?_
    try simp only [Act.put,qZ]
    refine tR 27 fun K hK=>?_
    try simp only [qZ]
    go_simp
    refine hK.out _ _ ?_ fun _=>?_
    ·exact kS
    clear hK K
    try simp only [Act.put,qZ]
    refine wpAnyH_done (by kernel_rfl) ?_ _
    go_wp2
    go_ret
    exact ⟨rfl,bX⟩
  ·have HRA:=Lib.hid hra
   clear hra
   obtain rfl:b=false:=by
    cases b
    ·rfl
    ·exact absurd (HB.out.1 rfl).2.2.1 HRA.out
   have HCA:=Lib.hid fun (w:World) hr=>rcheck_bad (n:=an) (A:=A) (ws:=aw) (w:=w) ca hr HRA.out
   go_enter Tryz.func169,Tryz.ntmps169
   go_wp2_with fail
   refine wp_region_held_drew (S:=(fun X:World=>X.cell? ⟨w.heap.size,0,none⟩=some (.int .i64 f)∧X.cell? ⟨w.heap.size,1,none⟩=some (.int .i64 1)∧X.cell? ⟨w.heap.size,2,none⟩=some (.int .i64 z)∧X.cell? ⟨w.heap.size,3,none⟩=some (.int .i64 an)∧X.cell? ⟨w.heap.size,4,none⟩=some (.slice A aw.length ca)∧X.cell? ⟨w.heap.size,5,none⟩=some (.int .i64 mn)∧X.cell? ⟨w.heap.size,6,none⟩=some (.slice M mw.length cm)∧X.cell? ⟨w.heap.size,7,none⟩=some (.bool s))) (by kernel_rfl) ?_ fun _=>?_
   ·exact kS
   refine tY 0 ?_
   try simp only [Act.put,qZ]
   refine tY 1 ?_
   try simp only [Act.put,qZ]
   refine tR 2 fun K hK=>?_
   try simp only [qZ]
   go_simp
   go_at_call 135
   refine (HCA.out _ (hA.later bX)).mono ?_
   rintro e w1 ⟨rfl,hb_w1⟩
   have hs_w1:=hb_w1.size
   (try simp only [zZ] at hs_w1)
   have mw10:w1.cell? ⟨w.heap.size,0,none⟩=some (.int .i64 f):=cX hb_w1
   have mw11:w1.cell? ⟨w.heap.size,1,none⟩=some (.int .i64 1):=cX hb_w1
   have mw12:w1.cell? ⟨w.heap.size,2,none⟩=some (.int .i64 z):=cX hb_w1
   have mw13:w1.cell? ⟨w.heap.size,3,none⟩=some (.int .i64 an):=cX hb_w1
   have mw14:w1.cell? ⟨w.heap.size,4,none⟩=some (.slice A aw.length ca):=cX hb_w1
   have mw15:w1.cell? ⟨w.heap.size,5,none⟩=some (.int .i64 mn):=cX hb_w1
   have mw16:w1.cell? ⟨w.heap.size,6,none⟩=some (.slice M mw.length cm):=cX hb_w1
   have mw17:w1.cell? ⟨w.heap.size,7,none⟩=some (.bool s):=cX hb_w1
   try go_wp2_with fail
   refine hK.out _ _ ?_ fun _=>?_
   ·exact kS
   clear hK K
   try simp only [Act.put,qZ]
   refine tY 3 ?_
   try simp only [Act.put,qZ]
   refine tY 4 ?_
   try simp only [Act.put,qZ]
   refine tN 5 ?_
   try simp only [Act.put,qZ]
   refine tN 6 ?_
   try simp only [Act.put,qZ]
   refine tN 7 ?_
   try simp only [Act.put,qZ]
   refine tN 8 ?_
   try simp only [Act.put,qZ]
   refine tR 9 fun K hK=>?_
   try simp only [qZ]
   go_simp
   refine hK.out _ _ ?_ fun _=>?_
   ·exact kS
   clear hK K
   try simp only [Act.put,qZ]
   refine tY 10 ?_
   try simp only [Act.put,qZ]
   refine tN 11 ?_
   try simp only [Act.put,qZ]
   refine tN 12 ?_
   try simp only [Act.put,qZ]
   refine tN 13 ?_
   try simp only [Act.put,qZ]
   refine tN 14 ?_
   try simp only [Act.put,qZ]
   refine tN 15 ?_
   try simp only [Act.put,qZ]
   refine tN 16 ?_
   try simp only [Act.put,qZ]
   refine tN 17 ?_
   try simp only [Act.put,qZ]
   refine tR 18 fun K hK=>?_
   try simp only [qZ]
   go_simp
   refine hK.out _ _ ?_ fun _=>?_
   ·exact kS
   clear hK K
   try simp only [Act.put,qZ]
   refine tY 19 ?_
   try simp only [Act.put,qZ]
   refine tN 20 ?_
   try simp only [Act.put,qZ]
   refine tN 21 ?_
   try simp only [Act.put,qZ]
   refine tN 22 ?_
   try simp only [Act.put,qZ]
   refine tN 23 ?_
   try simp only [Act.put,qZ]
   refine tN 24 ?_
   try simp only [Act.put,qZ]
   refine tN 25 ?_
   try simp only [Act.put,qZ]
   refine tN 26 ?_
   try simp only [Act.put,qZ]
   refine tR 27 fun K hK=>?_
   try simp only [qZ]
   go_simp
   refine hK.out _ _ ?_ fun _=>?_
   ·exact kS
   clear hK K
   try simp only [Act.put,qZ]
   refine wpAnyH_done (by kernel_rfl) ?_ _
   go_wp2
   go_ret
   exact ⟨rfl,bX⟩
end
end Go.Proofs.YtkfmbhlefppkhaaGreatDoor
