/- Parts of the proof. -/
import Derived.Test.YtkfmbhlefppkhaaGreatDoorML18
import Derived.Deep.RegionHeld3
set_option maxRecDepth 100000
set_option linter.unusedVariables false
set_option linter.unusedSimpArgs false
namespace Go.Proofs.YtkfmbhlefppkhaaGreatDoor
open Go.RowKit
section
variable {w:World} {v:Hv} {h:Hp}
set_option maxHeartbeats 16000000 in
theorem xturn_m (hm:HM w w.heap.size v h) (h2:h.l.length ≤ 17592186044416) (hk:OkH h) (hsw:SweptH h) (h':Hp) (y:Int) (hE:(¬ ClosedH h∧h=h'∧y=5) ∨ (ClosedH h∧trnH h=h'∧y=0)) :
  Calls Tryz.prog 39 #[hpV v h] w fun e w'=>GotH w h' y e w':=by
 have X0:=(HIn.new hm 31).alloc (.cells #[.slice none 0 0,.int .i64 0,.slice none 0 0,.slice none 0 0] 31)
 have R0:=B4.new (w.alloc (.cells #[.slice v.A h.ws.length v.ca,.int .i64 h.n,.slice v.U h.us.length v.cu,.slice v.V h.l.length v.cv] 31)) (.slice none 0 0) (.int .i64 0) (.slice none 0 0) (.slice none 0 0) 31
 rw [World.size_alloc] at R0
 unfold GotH
 have HN:Hid (¬ ClosedH h → h=h'∧y=5):=Lib.hid fun k=>by rcases hE with ⟨_,e⟩ | ⟨e,_⟩;exact e;exact absurd e k
 have HY:Hid (ClosedH h → trnH h=h'∧y=0):=Lib.hid fun k=>by rcases hE with ⟨e,_⟩ | ⟨_,e⟩;exact absurd k e;exact e
 clear hE
 have HCH:=Lib.hid fun (w:World) m=>xcheckH_any (w:=w) (v:=v) (h:=h) m h2 0 (.inl ⟨hk,rfl⟩)
 have HCP:=Lib.hid fun (w:World) m=>hcopyO_any (w:=w) (v:=v) (h:=h) m hk
 have HSW:=Lib.hid fun (w:World) (v:Hv) m=>xswept_any (w:=w) (v:=v) (h:=h) m hk.framed.spans.1 true (by constructor;(intro q;exact hsw);(intro q;rfl))
 have HAL:=Lib.hid fun (w:World) (v:Hv) m=>xallO_any (w:=w) (v:=v) (h:=h) m hk
 have HTU:=Lib.hid (turn_iff hk hsw)
 have HOB:=Lib.hid fun (o:Ob) (ho:o ∈ obsH h)=>heads_ob hk.framed hk.owned hk.heads ho
 have HAT:=Lib.hid fun (o:Ob) (ho:o ∈ obsH h)=>ob_at ho
 have HO:=Lib.hid hk.framed.spans
 have hol:=obsH_len (h:=h) hk.framed.spans
 have hw16:=hk.framed.words
 have hlw:0 < h.ws.length:=by have:=hk.framed.long;have:=hk.framed.some_;omega
 have h256:=hk.framed.spans.1
 have HTL:Hid ((trnH h).l.length=h.l.length):=Lib.hid (by unfold trnH;simp)
 generalize obsH h=os at *
 clear hk hm hsw
 unfold hpV hpv at HCH HCP HSW HAL ⊢
 obtain ⟨vA,vca,vU,vcu,vV,vcv⟩:=v
 obtain ⟨x0,x1,x2,x3,fx0,fx1,fx2,fx3⟩:=id X0.box
 simp only at *
 go_enter Tryz.func39,Tryz.ntmps39
 go_wp2_with fail
 go_at_call 22
 refine (HCH.out _ (by exact X0.m)).mono ?_
 rintro e w1 ⟨rfl,hb_w1⟩
 have b1:Below w.heap.size w w1:=bX
 have X1:=X0.later hb_w1
 have R1:=R0.later hb_w1
 have hs1:=R1.lt
 clear x0 x1 x2 x3 fx0 fx1 fx2 fx3 X0 R0 hb_w1
 obtain ⟨x0,x1,x2,x3,fx0,fx1,fx2,fx3⟩:=id X1.box
 obtain ⟨z0,z1,z2,z3,fz0,fz1,fz2,fz3⟩:=id R1
 go_wp2_with fail
 go_at_call 14
 refine (HCP.out _ (by exact X1.m)).mono ?_
 rintro e w2 ⟨v2,rfl,c2,hb_w2⟩
 have b2:=b1.trans (hb_w2.mono b1.size)
 have BX:=X1.box.later hb_w2
 have R2:=R1.later hb_w2
 have hs2:=hb_w2.size
 have BX3:=BX.all (.slice v2.A h.ws.length v2.ca) (.int .i64 h.n) (.slice v2.U h.us.length v2.cu) (.slice v2.V h.l.length v2.cv)
 have R3:=R2.farA (b':=w.heap.size) (by omega) (.slice v2.A h.ws.length v2.ca) (.int .i64 h.n) (.slice v2.U h.us.length v2.cu) (.slice v2.V h.l.length v2.cv)
 have C3:=c2.farA (b:=w.heap.size) (by omega) (.slice v2.A h.ws.length v2.ca) (.int .i64 h.n) (.slice v2.U h.us.length v2.cu) (.slice v2.V h.l.length v2.cv)
 have b3:=below_all b2 (b:=w.heap.size) (Nat.le_refl _) (.slice v2.A h.ws.length v2.ca) (.int .i64 h.n) (.slice v2.U h.us.length v2.cu) (.slice v2.V h.l.length v2.cv)
 clear x0 x1 x2 x3 fx0 fx1 fx2 fx3 z0 z1 z2 z3 fz0 fz1 fz2 fz3 X1 R1 R2 c2 b1 b2 hb_w2
 obtain ⟨x0,x1,x2,x3,fx0,fx1,fx2,fx3⟩:=id BX
 obtain ⟨y0,y1,y2,y3,fy0,fy1,fy2,fy3⟩:=id BX3
 obtain ⟨z0,z1,z2,z3,fz0,fz1,fz2,fz3⟩:=id R3
 go_wp2_with fail
 generalize ((((w2.setCell ⟨w.heap.size,0,none⟩ (.slice v2.A h.ws.length v2.ca)).setCell ⟨w.heap.size,1,none⟩ (.int .i64 h.n)).setCell ⟨w.heap.size,2,none⟩ (.slice v2.U h.us.length v2.cu)).setCell ⟨w.heap.size,3,none⟩ (.slice v2.V h.l.length v2.cv))=W3 at *
 go_at_call 111
 refine (HSW.out _ _ C3.hm).mono ?_
 rintro e w4 ⟨rfl,hb_w4⟩
 have BX4:=BX3.later hb_w4
 have R4:=R3.later hb_w4
 have C4:=C3.later hb_w4
 have b4:=b3.trans (hb_w4.mono b3.size)
 have hs4:=hb_w4.size
 clear x0 x1 x2 x3 fx0 fx1 fx2 fx3 y0 y1 y2 y3 fy0 fy1 fy2 fy3 z0 z1 z2 z3 fz0 fz1 fz2 fz3 BX BX3 R3 C3 b3 hb_w4
 obtain ⟨y0,y1,y2,y3,fy0,fy1,fy2,fy3⟩:=id BX4
 obtain ⟨z0,z1,z2,z3,fz0,fz1,fz2,fz3⟩:=id R4
 go_wp2_with fail
 go_at_call 96
 refine (HAL.out _ _ C4.hm).mono ?_
 rintro e w5 ⟨Ao,co,rfl,hXR,hb_w5⟩
 have BX5:=BX4.later hb_w5
 have R5:=R4.later hb_w5
 have C5:=C4.later hb_w5
 have b5:=b4.trans (hb_w5.mono b4.size)
 have hs5:=hb_w5.size
 clear y0 y1 y2 y3 fy0 fy1 fy2 fy3 z0 z1 z2 z3 fz0 fz1 fz2 fz3 BX4 R4 C4 b4 hb_w5
 obtain ⟨v2A,v2ca,v2U,v2cu,v2V,v2cv⟩:=v2
 simp only at *
 have W5:OwnsH w5 w1.heap.size ⟨v2A,v2ca,v2U,v2cu,v2V,v2cv⟩ h:=C5.owns
 have HW5:=Lib.hid W5
 have HX5:Hid (B4 w5 w.heap.size (.slice v2A h.ws.length v2ca) (.int .i64 h.n) (.slice v2U h.us.length v2cu) (.slice v2V h.l.length v2cv)):=Lib.hid BX5
 have HR5:=Lib.hid R5
 have HB5:=Lib.hid b5
 obtain ⟨gA,oA,hAe,hgA,hcA⟩:=W5.a.row.at_ hlw
 simp only at hAe
 have hxl:=R5.lt
 have HCA:=Lib.hid hcA
 have b6:Below w5.heap.size w5 w5:=Below.refl _ _
 clear W5 BX5 R5 C5 b5 hcA
 subst hAe
 go_wp2_with fail
 go_loopw [30] (fun jv wr=>∃ j:Nat,jv=.int .i64 (j:Nat)∧j ≤ os.length∧Hid (∀ i (hi:i < os.length),i < j → TuO h.ws os os[i] os[i].n.toNat)∧Below w5.heap.size w5 wr) (fun jv _=>os.length - (intOf jv).toNat)
 case atStart=>exact ⟨0,rfl,Nat.zero_le _,Lib.hid (by intro i hi h;omega),b6⟩
 case round=>
  clear b6
  obtain ⟨j,rfl,hj,HD,hb⟩:=hrel
  have hsr:=hb.size
  by_cases hlt:j < os.length
  ·obtain ⟨go,oo,hoe,hg,hc⟩:=(hXR.below hb).at_ (by omega)
   have xp:=hc j hlt
   have hmem:os[j] ∈ os:=List.getElem_mem hlt
   have HL2:Hid (TuO h.ws os os[j] os[j].n.toNat → ∀ i (hi:i < os.length),i < j + 1 → TuO h.ws os os[i] os[i].n.toNat):=Lib.hid fun e i hi hij=>by
    by_cases e2:i=j
    ·subst e2;exact e
    ·exact HD.out i hi (by omega)
   have HL3:Hid (¬ TuO h.ws os os[j] os[j].n.toNat → h=h'∧y=5):=Lib.hid fun e=>HN.out fun k=>e (HTU.out.1 k _ hmem)
   obtain ⟨oa1,oa2,on1,on2,om⟩:=HOB.out _ hmem
   obtain ⟨jo,ko,hjo,hko,ei,ek,eb⟩:=HAT.out _ hmem
   obtain ⟨o,ho⟩:∃ o,Hid (os[j]=o):=⟨_,Lib.hid rfl⟩
   rw [ho.out] at xp oa1 oa2 on1 on2 om HL2 HL3 ei ek eb
   have HEI:=Lib.hid ei
   have HEK:=Lib.hid ek
   have HEB:=Lib.hid eb
   clear ei ek eb
   obtain ⟨p0,p1,p2,p3,p4,p5⟩:=id xp
   have j1:(j:Int) < (os.length:Int):=by omega
   have j2:(0:Int) ≤ (j:Int):=by omega
   have Z0:=Six.new wr (.int .i64 o.i) (.int .i64 o.k) (.int .u64 o.a) (.int .i64 o.n) (.int .u64 o.m) (.bool o.c) 156
   have aS:Below wr.heap.size wr (wr.alloc (.cells #[.int .i64 o.i,.int .i64 o.k,.int .u64 o.a,.int .i64 o.n,.int .u64 o.m,.bool o.c] 156)):=Below.alloc (Below.refl _ _) (Nat.le_refl _) _
   have b4:=hb.trans (aS.mono hsr)
   subst hoe
   clear hc xp hmem aS HD ho hb
   go_wp2_with fail
   clear p0 p1 p2 p3 p4 p5
   obtain ⟨n,hn⟩:∃ n:Nat,o.n=(n:Int):=⟨o.n.toNat,by omega⟩
   have hnt:o.n.toNat=n:=by omega
   have hn48:n ≤ 48:=by omega
   have HNN:=Lib.hid hn
   have HNT:=Lib.hid hnt
   have hin:o.a + n < h.ws.length:=by omega
   clear hn hnt on1 on2 oa2
   generalize wr=wA at *
   have hgA2:go < w5.heap.size:=hg
   go_loopw [8] (fun fv wr=>∃ f:Nat,fv=.int .i64 (f:Nat)∧f ≤ n∧Hid (TuO h.ws os o f)∧Six wr wA.heap.size (.int .i64 o.i) (.int .i64 o.k) (.int .u64 o.a) (.int .i64 o.n) (.int .u64 o.m) (.bool o.c)∧Below w5.heap.size w5 wr) (fun fv _=>n - (intOf fv).toNat)
   case atStart=>exact ⟨0,rfl,Nat.zero_le _,Lib.hid (by intro _ f hf;omega),Z0,b4⟩
   case round=>
    clear Z0 b4
    obtain ⟨f,rfl,hf,HL,Z,hb⟩:=hrel
    have hsr2:=hb.size
    have hzl:=Z.lt
    obtain ⟨z0,z1,z2,z3,z4,z5,zf⟩:=id Z
    obtain ⟨q0,q1,q2,q3,_,_,_,_⟩:=HX5.out.later hb
    by_cases hfn:f < n
    ·have f2:decide ((f:Int) < o.n)=true:=decide_eq_true (by have:=HNN.out;omega)
     have hf48:f ≤ 48:=by omega
     have HFN:=Lib.hid hfn
     obtain ⟨p,hp⟩:∃ p,o.a + 1 + f=p:=⟨_,rfl⟩
     have hpl:p < h.ws.length:=by omega
     have w1':IntKind.u64.wrap ((f:Nat):Int)=((f:Nat):Int):=by rw [IntKind.wrap_u64];omega
     have w3':IntKind.u64.wrap (((o.a:Nat):Int) + 1)=((o.a:Nat):Int) + 1:=by rw [IntKind.wrap_u64];omega
     have w2':IntKind.u64.wrap (((o.a:Nat):Int) + 1 + ((f:Nat):Int))=((p:Nat):Int):=by rw [IntKind.wrap_u64];omega
     have p1:((p:Nat):Int) < ((h.ws.length:Nat):Int):=by omega
     have p2:(0:Int) ≤ ((p:Nat):Int):=by omega
     have r0:=(hb.cell (p:=⟨gA,oA + p,none⟩) hgA).trans (HCA.out p hpl)
     obtain ⟨x,hx⟩:∃ x,Hid (h.ws.getD p 0=x):=⟨_,Lib.hid rfl⟩
     rw [hx.out] at r0
     obtain ⟨r,bb,hE⟩:=FdE.ex os x
     have HST:Hid ((o.b=true → o.m.testBit f=true → bb=true → r.b=true) → TuO h.ws os o (f + 1)):=Lib.hid fun e=>HL.out.step fun hc hbt r' hE'=>by
      rw [hp,hx.out] at hE'
      obtain ⟨e1,e2⟩:=hE.uniq hE'
      rw [← e1]
      exact e hc hbt e2
     have HBD:Hid (o.b=true → o.m.testBit f=true → bb=true → r.b=false → h=h'∧y=5):=Lib.hid fun hc hbt e2 hno=>HL3.out fun k=>by
      have:=k hc f (by have:=HNT.out;omega) hbt r (by rw [hp,hx.out,← e2];exact hE)
      rw [hno] at this
      cases this
     have HRT:Hid (bb=true → ∃ j k:Nat,j < h.l.length∧k < slN (nth h.l j)∧r.i=(j:Nat)∧r.k=(k:Nat)∧tb (nth h.l j).mw k=r.b):=Lib.hid fun e=>HAT.out r (by rw [e] at hE;exact hE.mem)
     have HFI:=Lib.hid fun (w:World) hr=>xfindO_any (w:=w) (A:=some ⟨go,oo,none⟩) (os:=os) co hr (by omega) x r bb hE
     unfold obX at HFI
     have HRW:=Lib.hid fun (w5':World) (hb5:Below w5.heap.size w5 w5')=>(hXR.below hb5).more hb5.size
     clear hp hx HL hfn hE
     go_wp2_with fail
     go_at_call 98
     refine (HFI.out _ (HRW.out _ hb)).mono ?_
     rintro e w6 ⟨rfl,hb_w6⟩
     have a6:Below w6.heap.size w6 (w6.alloc (.cells #[.int .i64 r.i,.int .i64 r.k,.int .u64 r.a,.int .i64 r.n,.int .u64 r.m,.bool r.c] 156)):=Below.alloc (Below.refl _ _) (Nat.le_refl _) _
     have Z6:=(Z.later hb_w6).later a6
     have Y6:=Six.new w6 (.int .i64 r.i) (.int .i64 r.k) (.int .u64 r.a) (.int .i64 r.n) (.int .u64 r.m) (.bool r.c) 156
     have b6:=hb.trans (hb_w6.mono hsr2)
     have b7:=b6.trans (a6.mono b6.size)
     have hz6:wA.heap.size < w6.heap.size:=(Z.later hb_w6).lt
     have hsa:(w6.alloc (.cells #[.int .i64 r.i,.int .i64 r.k,.int .u64 r.a,.int .i64 r.n,.int .u64 r.m,.bool r.c] 156)).heap.size=w6.heap.size + 1:=World.size_alloc _ _
     clear z0 z1 z2 z3 z4 z5 zf q0 q1 q2 q3 Z hb hb_w6 a6 b6 r0
     obtain ⟨z0,z1,z2,z3,z4,z5,_⟩:=id Z6
     obtain ⟨y0,y1,y2,y3,y4,y5,_⟩:=id Y6
     obtain ⟨q0,q1,q2,q3,_,_,_,_⟩:=HX5.out.later b7
     have hs7:=b7.size
     go_wp2_with fail
     generalize w6.alloc (.cells #[.int .i64 r.i,.int .i64 r.k,.int .u64 r.a,.int .i64 r.n,.int .u64 r.m,.bool r.c] 156)=W at *
     obtain ⟨g,A1,ca1,Mm,cm,hV,hgB,hgl,c8,oA1,oM,fz⟩:=(HW5.out.later b7).span hjo
     simp only at hV
     have c5:=c8.c5
     have c6:=c8.c6
     have hrow:=oM.row
     have ok:=HO.out.at_ hjo
     have hmw:=ok.mw
     have hmn:=ok.mn
     have hks:=ok.slK
     have HIS:=Lib.hid fun (w:World) (Am:Option Addr) (cm:Nat) hr=>is_any (A:=Am) (ws:=(nth h.l jo).mw) (w:=w) (ko:Nat) (nth h.l jo).mn cm hr (by omega) (by omega) (by omega)
     simp only [Int.toNat_natCast] at HIS
     rw [HEB.out] at HIS
     rw [HEI.out] at z0
     rw [HEK.out] at z1
     subst hV
     have i1:(jo:Int) < (h.l.length:Int):=by omega
     have i2:(0:Int) ≤ (jo:Int):=by omega
     have HIX:=Lib.hid fun (w:World)=>xis_any (n:=o.n) (m:=o.m) (w:=w) (f:Nat) (by omega) (by omega)
     simp only [Int.toNat_natCast] at HIX
     clear c8 oA1 oM fz ok hks hmw hmn z2 z5 y2 y3 y4 y5
     obtain hob | hob:o.b=false ∨ o.b=true:=by cases o.b <;> simp
     ·rw [hob] at HIS
      have HL2':=Lib.hid (HST.out (fun e=>(by rw [hob] at e;cases e)))
      clear HST HBD hob HRT
      refine wp_region_held_drew (S:=(fun X:World=>X.cell? ⟨w.heap.size,3,none⟩=some (.slice (some ⟨g,0,none⟩) h.l.length v2cv)∧X.cell? ⟨wA.heap.size,0,none⟩=some (.int .i64 (jo:Nat))∧X.cell? ⟨wA.heap.size,1,none⟩=some (.int .i64 (ko:Nat))∧X.cell? ⟨wA.heap.size,3,none⟩=some (.int .i64 o.n)∧X.cell? ⟨wA.heap.size,4,none⟩=some (.int .u64 o.m)∧X.cell? ⟨g,jo * 8 + 5,none⟩=some (.int .i64 (nth h.l jo).mn)∧X.cell? ⟨g,jo * 8 + 6,none⟩=some (.slice Mm (nth h.l jo).mw.length cm))) (by kernel_rfl) ?_ fun _=>?_
      ·exact kS
      refine tY 0 ?_
      try simp only [Act.put,qZ]
      refine tY 1 ?_
      try simp only [Act.put,qZ]
      refine tY 2 ?_
      try simp only [Act.put,qZ]
      refine tY 3 ?_
      try simp only [Act.put,qZ]
      refine tY 4 ?_
      try simp only [Act.put,qZ]
      refine tY 5 ?_
      try simp only [Act.put,qZ]
      refine tY 6 ?_
      try simp only [Act.put,qZ]
      refine tY 7 ?_
      try simp only [Act.put,qZ]
      refine tY 8 ?_
      try simp only [Act.put,qZ]
      refine tR 9 fun K hK=>?_
      try simp only [qZ]
      go_simp
      go_at_call 107
      refine (HIS.out _ _ _ (hrow.later bX)).mono ?_
      rintro e w8 ⟨rfl,hb_w8⟩
      have k8:Below W.heap.size W w8:=bX
      have hs8:=k8.size
      have mw80:w8.cell? ⟨w.heap.size,3,none⟩=some (.slice (some ⟨g,0,none⟩) h.l.length v2cv):=cX hb_w8
      have mw81:w8.cell? ⟨wA.heap.size,0,none⟩=some (.int .i64 (jo:Nat)):=cX hb_w8
      have mw82:w8.cell? ⟨wA.heap.size,1,none⟩=some (.int .i64 (ko:Nat)):=cX hb_w8
      have mw83:w8.cell? ⟨wA.heap.size,3,none⟩=some (.int .i64 o.n):=cX hb_w8
      have mw84:w8.cell? ⟨wA.heap.size,4,none⟩=some (.int .u64 o.m):=cX hb_w8
      have mw85:w8.cell? ⟨g,jo * 8 + 5,none⟩=some (.int .i64 (nth h.l jo).mn):=cX hb_w8
      have mw86:w8.cell? ⟨g,jo * 8 + 6,none⟩=some (.slice Mm (nth h.l jo).mw.length cm):=cX hb_w8
      try go_wp2_with fail
      refine hK.out _ _ ?_ fun _=>?_
      ·exact kS
      clear hK K
      try simp only [Act.put,qZ]
      refine tY 10 ?_
      try simp only [Act.put,qZ]
      refine tN 11 ?_
      try simp only [Act.put,qZ]
      refine tN 12 ?_
      try simp only [Act.put,qZ]
      refine tN 13 ?_
      try simp only [Act.put,qZ]
      refine tN 14 ?_
      try simp only [Act.put,qZ]
      refine tR 15 fun K hK=>?_
      try simp only [qZ]
      go_simp
      refine hK.out _ _ ?_ fun _=>?_
      ·exact kS
      clear hK K
      try simp only [Act.put,qZ]
      refine tY 16 ?_
      try simp only [Act.put,qZ]
      refine tN 17 ?_
      try simp only [Act.put,qZ]
      refine tR 18 fun K hK=>?_
      try simp only [qZ]
      go_simp
      refine hK.out _ _ ?_ fun _=>?_
      ·exact kS
      clear hK K
      try simp only [Act.put,qZ]
      refine tY 19 ?_
      try simp only [Act.put,qZ]
      refine tN 20 ?_
      try simp only [Act.put,qZ]
      refine tN 21 ?_
      try simp only [Act.put,qZ]
      refine tN 22 ?_
      try simp only [Act.put,qZ]
      refine tN 23 ?_
      try simp only [Act.put,qZ]
      refine tN 24 ?_
      try simp only [Act.put,qZ]
      refine tN 25 ?_
      try simp only [Act.put,qZ]
      refine tN 26 ?_
      try simp only [Act.put,qZ]
      refine tN 27 ?_
      try simp only [Act.put,qZ]
      refine tN 28 ?_
      try simp only [Act.put,qZ]
      refine tN 29 ?_
      try simp only [Act.put,qZ]
      refine tN 30 ?_
      try simp only [Act.put,qZ]
      refine tR 31 fun K hK=>?_
      try simp only [qZ]
      go_simp
      refine hK.out _ _ ?_ fun _=>?_
      ·exact kS
      clear hK K
      try simp only [Act.put,qZ]
      refine wpAnyH_done (by kernel_rfl) ?_ _
      have Z9:=Z6.later k8
      have b9:=b7.trans (k8.mono hs7)
      go_wp2
      go_roundw
      case rel=>first | exact ⟨f + 1,by go_num,by have:=HFN.out;omega,HL2',Z9,b9⟩ | exact ⟨_,_,.int .i64 ((f + 1:Nat):Int),⟨f + 1,rfl,by have:=HFN.out;omega,HL2',Z9,b9⟩,rfl,rfl,by first | go_num | simp⟩
      case measure=>have:=HFN.out;simp [intOf];omega
     ·rw [hob] at HIS
      obtain hbt | hbt:o.m.testBit f=false ∨ o.m.testBit f=true:=by cases o.m.testBit f <;> simp
      ·have HL2':=Lib.hid (HST.out (fun _ e=>(by rw [hbt] at e;cases e)))
       rw [hbt] at HIX
       clear HST HBD hob hbt HRT
       refine wp_region_held_drew (S:=(fun X:World=>X.cell? ⟨w.heap.size,3,none⟩=some (.slice (some ⟨g,0,none⟩) h.l.length v2cv)∧X.cell? ⟨wA.heap.size,0,none⟩=some (.int .i64 (jo:Nat))∧X.cell? ⟨wA.heap.size,1,none⟩=some (.int .i64 (ko:Nat))∧X.cell? ⟨wA.heap.size,3,none⟩=some (.int .i64 o.n)∧X.cell? ⟨wA.heap.size,4,none⟩=some (.int .u64 o.m)∧X.cell? ⟨g,jo * 8 + 5,none⟩=some (.int .i64 (nth h.l jo).mn)∧X.cell? ⟨g,jo * 8 + 6,none⟩=some (.slice Mm (nth h.l jo).mw.length cm))) (by kernel_rfl) ?_ fun _=>?_
       ·exact kS
       refine tY 0 ?_
       try simp only [Act.put,qZ]
       refine tY 1 ?_
       try simp only [Act.put,qZ]
       refine tY 2 ?_
       try simp only [Act.put,qZ]
       refine tY 3 ?_
       try simp only [Act.put,qZ]
       refine tY 4 ?_
       try simp only [Act.put,qZ]
       refine tY 5 ?_
       try simp only [Act.put,qZ]
       refine tY 6 ?_
       try simp only [Act.put,qZ]
       refine tY 7 ?_
       try simp only [Act.put,qZ]
       refine tY 8 ?_
       try simp only [Act.put,qZ]
       refine tR 9 fun K hK=>?_
       try simp only [qZ]
       go_simp
       go_at_call 107
       refine (HIS.out _ _ _ (hrow.later bX)).mono ?_
       rintro e w8 ⟨rfl,hb_w8⟩
       have k8:Below W.heap.size W w8:=bX
       have hs8:=k8.size
       have mw80:w8.cell? ⟨w.heap.size,3,none⟩=some (.slice (some ⟨g,0,none⟩) h.l.length v2cv):=cX hb_w8
       have mw81:w8.cell? ⟨wA.heap.size,0,none⟩=some (.int .i64 (jo:Nat)):=cX hb_w8
       have mw82:w8.cell? ⟨wA.heap.size,1,none⟩=some (.int .i64 (ko:Nat)):=cX hb_w8
       have mw83:w8.cell? ⟨wA.heap.size,3,none⟩=some (.int .i64 o.n):=cX hb_w8
       have mw84:w8.cell? ⟨wA.heap.size,4,none⟩=some (.int .u64 o.m):=cX hb_w8
       have mw85:w8.cell? ⟨g,jo * 8 + 5,none⟩=some (.int .i64 (nth h.l jo).mn):=cX hb_w8
       have mw86:w8.cell? ⟨g,jo * 8 + 6,none⟩=some (.slice Mm (nth h.l jo).mw.length cm):=cX hb_w8
       try go_wp2_with fail
       refine hK.out _ _ ?_ fun _=>?_
       ·exact kS
       clear hK K
       try simp only [Act.put,qZ]
       refine tY 10 ?_
       try simp only [Act.put,qZ]
       refine tY 11 ?_
       try simp only [Act.put,qZ]
       refine tY 12 ?_
       try simp only [Act.put,qZ]
       refine tY 13 ?_
       try simp only [Act.put,qZ]
       refine tR 14 fun K hK=>?_
       try simp only [qZ]
       go_simp
       go_at_call 97
       refine (HIX.out _).mono ?_
       rintro e w9 ⟨rfl,hb_w9⟩
       have k9:Below W.heap.size W w9:=bX
       have hs9:=k9.size
       have mw90:w9.cell? ⟨w.heap.size,3,none⟩=some (.slice (some ⟨g,0,none⟩) h.l.length v2cv):=cX hb_w9
       have mw91:w9.cell? ⟨wA.heap.size,0,none⟩=some (.int .i64 (jo:Nat)):=cX hb_w9
       have mw92:w9.cell? ⟨wA.heap.size,1,none⟩=some (.int .i64 (ko:Nat)):=cX hb_w9
       have mw93:w9.cell? ⟨wA.heap.size,3,none⟩=some (.int .i64 o.n):=cX hb_w9
       have mw94:w9.cell? ⟨wA.heap.size,4,none⟩=some (.int .u64 o.m):=cX hb_w9
       have mw95:w9.cell? ⟨g,jo * 8 + 5,none⟩=some (.int .i64 (nth h.l jo).mn):=cX hb_w9
       have mw96:w9.cell? ⟨g,jo * 8 + 6,none⟩=some (.slice Mm (nth h.l jo).mw.length cm):=cX hb_w9
       try go_wp2_with fail
       refine hK.out _ _ ?_ fun _=>?_
       ·exact kS
       clear hK K
       try simp only [Act.put,qZ]
       refine tR 15 fun K hK=>?_
       try simp only [qZ]
       go_simp
       refine hK.out _ _ ?_ fun _=>?_
       ·exact kS
       clear hK K
       try simp only [Act.put,qZ]
       refine tY 16 ?_
       try simp only [Act.put,qZ]
       refine tN 17 ?_
       try simp only [Act.put,qZ]
       refine tR 18 fun K hK=>?_
       try simp only [qZ]
       go_simp
       refine hK.out _ _ ?_ fun _=>?_
       ·exact kS
       clear hK K
       try simp only [Act.put,qZ]
       refine tY 19 ?_
       try simp only [Act.put,qZ]
       refine tN 20 ?_
       try simp only [Act.put,qZ]
       refine tN 21 ?_
       try simp only [Act.put,qZ]
       refine tN 22 ?_
       try simp only [Act.put,qZ]
       refine tN 23 ?_
       try simp only [Act.put,qZ]
       refine tN 24 ?_
       try simp only [Act.put,qZ]
       refine tN 25 ?_
       try simp only [Act.put,qZ]
       refine tN 26 ?_
       try simp only [Act.put,qZ]
       refine tN 27 ?_
       try simp only [Act.put,qZ]
       refine tN 28 ?_
       try simp only [Act.put,qZ]
       refine tN 29 ?_
       try simp only [Act.put,qZ]
       refine tN 30 ?_
       try simp only [Act.put,qZ]
       refine tR 31 fun K hK=>?_
       try simp only [qZ]
       go_simp
       refine hK.out _ _ ?_ fun _=>?_
       ·exact kS
       clear hK K
       try simp only [Act.put,qZ]
       refine wpAnyH_done (by kernel_rfl) ?_ _
       have Z9:=Z6.later k9
       have b9:=b7.trans (k9.mono hs7)
       go_wp2
       go_roundw
       case rel=>first | exact ⟨f + 1,by go_num,by have:=HFN.out;omega,HL2',Z9,b9⟩ | exact ⟨_,_,.int .i64 ((f + 1:Nat):Int),⟨f + 1,rfl,by have:=HFN.out;omega,HL2',Z9,b9⟩,rfl,rfl,by first | go_num | simp⟩
       case measure=>have:=HFN.out;simp [intOf];omega
      ·rw [hbt] at HIX
       cases bb
       ·have HL2':=Lib.hid (HST.out (fun _ _ e=>(by cases e)))
        clear HST HBD hob hbt HRT
        refine wp_region_held_drew (S:=(fun X:World=>X.cell? ⟨w.heap.size,3,none⟩=some (.slice (some ⟨g,0,none⟩) h.l.length v2cv)∧X.cell? ⟨wA.heap.size,0,none⟩=some (.int .i64 (jo:Nat))∧X.cell? ⟨wA.heap.size,1,none⟩=some (.int .i64 (ko:Nat))∧X.cell? ⟨wA.heap.size,3,none⟩=some (.int .i64 o.n)∧X.cell? ⟨wA.heap.size,4,none⟩=some (.int .u64 o.m)∧X.cell? ⟨g,jo * 8 + 5,none⟩=some (.int .i64 (nth h.l jo).mn)∧X.cell? ⟨g,jo * 8 + 6,none⟩=some (.slice Mm (nth h.l jo).mw.length cm))) (by kernel_rfl) ?_ fun _=>?_
        ·exact kS
        refine tY 0 ?_
        try simp only [Act.put,qZ]
        refine tY 1 ?_
        try simp only [Act.put,qZ]
        refine tY 2 ?_
        try simp only [Act.put,qZ]
        refine tY 3 ?_
        try simp only [Act.put,qZ]
        refine tY 4 ?_
        try simp only [Act.put,qZ]
        refine tY 5 ?_
        try simp only [Act.put,qZ]
        refine tY 6 ?_
        try simp only [Act.put,qZ]
        refine tY 7 ?_
        try simp only [Act.put,qZ]
        refine tY 8 ?_
        try simp only [Act.put,qZ]
        refine tR 9 fun K hK=>?_
        try simp only [qZ]
        go_simp
        go_at_call 107
        refine (HIS.out _ _ _ (hrow.later bX)).mono ?_
        rintro e w8 ⟨rfl,hb_w8⟩
        have k8:Below W.heap.size W w8:=bX
        have hs8:=k8.size
        have mw80:w8.cell? ⟨w.heap.size,3,none⟩=some (.slice (some ⟨g,0,none⟩) h.l.length v2cv):=cX hb_w8
        have mw81:w8.cell? ⟨wA.heap.size,0,none⟩=some (.int .i64 (jo:Nat)):=cX hb_w8
        have mw82:w8.cell? ⟨wA.heap.size,1,none⟩=some (.int .i64 (ko:Nat)):=cX hb_w8
        have mw83:w8.cell? ⟨wA.heap.size,3,none⟩=some (.int .i64 o.n):=cX hb_w8
        have mw84:w8.cell? ⟨wA.heap.size,4,none⟩=some (.int .u64 o.m):=cX hb_w8
        have mw85:w8.cell? ⟨g,jo * 8 + 5,none⟩=some (.int .i64 (nth h.l jo).mn):=cX hb_w8
        have mw86:w8.cell? ⟨g,jo * 8 + 6,none⟩=some (.slice Mm (nth h.l jo).mw.length cm):=cX hb_w8
        try go_wp2_with fail
        refine hK.out _ _ ?_ fun _=>?_
        ·exact kS
        clear hK K
        try simp only [Act.put,qZ]
        refine tY 10 ?_
        try simp only [Act.put,qZ]
        refine tY 11 ?_
        try simp only [Act.put,qZ]
        refine tY 12 ?_
        try simp only [Act.put,qZ]
        refine tY 13 ?_
        try simp only [Act.put,qZ]
        refine tR 14 fun K hK=>?_
        try simp only [qZ]
        go_simp
        go_at_call 97
        refine (HIX.out _).mono ?_
        rintro e w9 ⟨rfl,hb_w9⟩
        have k9:Below W.heap.size W w9:=bX
        have hs9:=k9.size
        have mw90:w9.cell? ⟨w.heap.size,3,none⟩=some (.slice (some ⟨g,0,none⟩) h.l.length v2cv):=cX hb_w9
        have mw91:w9.cell? ⟨wA.heap.size,0,none⟩=some (.int .i64 (jo:Nat)):=cX hb_w9
        have mw92:w9.cell? ⟨wA.heap.size,1,none⟩=some (.int .i64 (ko:Nat)):=cX hb_w9
        have mw93:w9.cell? ⟨wA.heap.size,3,none⟩=some (.int .i64 o.n):=cX hb_w9
        have mw94:w9.cell? ⟨wA.heap.size,4,none⟩=some (.int .u64 o.m):=cX hb_w9
        have mw95:w9.cell? ⟨g,jo * 8 + 5,none⟩=some (.int .i64 (nth h.l jo).mn):=cX hb_w9
        have mw96:w9.cell? ⟨g,jo * 8 + 6,none⟩=some (.slice Mm (nth h.l jo).mw.length cm):=cX hb_w9
        try go_wp2_with fail
        refine hK.out _ _ ?_ fun _=>?_
        ·exact kS
        clear hK K
        try simp only [Act.put,qZ]
        refine tR 15 fun K hK=>?_
        try simp only [qZ]
        go_simp
        refine hK.out _ _ ?_ fun _=>?_
        ·exact kS
        clear hK K
        try simp only [Act.put,qZ]
        refine tY 16 ?_
        try simp only [Act.put,qZ]
        refine tY 17 ?_
        try simp only [Act.put,qZ]
        refine tR 18 fun K hK=>?_
        try simp only [qZ]
        go_simp
        refine hK.out _ _ ?_ fun _=>?_
        ·exact kS
        clear hK K
        try simp only [Act.put,qZ]
        refine tY 19 ?_
        try simp only [Act.put,qZ]
        refine tN 20 ?_
        try simp only [Act.put,qZ]
        refine tN 21 ?_
        try simp only [Act.put,qZ]
        refine tN 22 ?_
        try simp only [Act.put,qZ]
        refine tN 23 ?_
        try simp only [Act.put,qZ]
        refine tN 24 ?_
        try simp only [Act.put,qZ]
        refine tN 25 ?_
        try simp only [Act.put,qZ]
        refine tN 26 ?_
        try simp only [Act.put,qZ]
        refine tN 27 ?_
        try simp only [Act.put,qZ]
        refine tN 28 ?_
        try simp only [Act.put,qZ]
        refine tN 29 ?_
        try simp only [Act.put,qZ]
        refine tN 30 ?_
        try simp only [Act.put,qZ]
        refine tR 31 fun K hK=>?_
        try simp only [qZ]
        go_simp
        refine hK.out _ _ ?_ fun _=>?_
        ·exact kS
        clear hK K
        try simp only [Act.put,qZ]
        refine wpAnyH_done (by kernel_rfl) ?_ _
        have Z9:=Z6.later k9
        have b9:=b7.trans (k9.mono hs7)
        go_wp2
        go_roundw
        case rel=>first | exact ⟨f + 1,by go_num,by have:=HFN.out;omega,HL2',Z9,b9⟩ | exact ⟨_,_,.int .i64 ((f + 1:Nat):Int),⟨f + 1,rfl,by have:=HFN.out;omega,HL2',Z9,b9⟩,rfl,rfl,by first | go_num | simp⟩
        case measure=>have:=HFN.out;simp [intOf];omega
       ·obtain ⟨jr,kr,hjr,hkr,eri,erk,erb⟩:=HRT.out rfl
        obtain ⟨g',A2,ca2,Mr,cmr,hV,hgB',hgl',c8,oA1,oM,fz⟩:=(HW5.out.later b7).span hjr
        simp only at hV
        injection hV with hV
        injection hV with hV _ _
        subst hV
        have c5r:=c8.c5
        have c6r:=c8.c6
        have hrowr:=oM.row
        have ok:=HO.out.at_ hjr
        have hmw:=ok.mw
        have hmn:=ok.mn
        have hks:=ok.slK
        have HIR:=Lib.hid fun (w:World) (Am:Option Addr) (cm:Nat) hr=>is_any (A:=Am) (ws:=(nth h.l jr).mw) (w:=w) (kr:Nat) (nth h.l jr).mn cm hr (by omega) (by omega) (by omega)
        simp only [Int.toNat_natCast] at HIR
        rw [erb] at HIR
        rw [eri] at y0
        rw [erk] at y1
        have i3:(jr:Int) < (h.l.length:Int):=by omega
        have i4:(0:Int) ≤ (jr:Int):=by omega
        clear c8 oA1 oM fz ok hks hmw hmn HRT eri erk erb
        refine wp_region_held_drew (S:=(fun X:World=>X.cell? ⟨w.heap.size,3,none⟩=some (.slice (some ⟨g,0,none⟩) h.l.length v2cv)∧X.cell? ⟨wA.heap.size,0,none⟩=some (.int .i64 (jo:Nat))∧X.cell? ⟨wA.heap.size,1,none⟩=some (.int .i64 (ko:Nat))∧X.cell? ⟨wA.heap.size,3,none⟩=some (.int .i64 o.n)∧X.cell? ⟨wA.heap.size,4,none⟩=some (.int .u64 o.m)∧X.cell? ⟨g,jo * 8 + 5,none⟩=some (.int .i64 (nth h.l jo).mn)∧X.cell? ⟨g,jo * 8 + 6,none⟩=some (.slice Mm (nth h.l jo).mw.length cm)∧X.cell? ⟨w6.heap.size,0,none⟩=some (.int .i64 (jr:Nat))∧X.cell? ⟨w6.heap.size,1,none⟩=some (.int .i64 (kr:Nat))∧X.cell? ⟨g,jr * 8 + 5,none⟩=some (.int .i64 (nth h.l jr).mn)∧X.cell? ⟨g,jr * 8 + 6,none⟩=some (.slice Mr (nth h.l jr).mw.length cmr))) (by kernel_rfl) ?_ fun _=>?_
        ·exact kS
        refine tY 0 ?_
        try simp only [Act.put,qZ]
        refine tY 1 ?_
        try simp only [Act.put,qZ]
        refine tY 2 ?_
        try simp only [Act.put,qZ]
        refine tY 3 ?_
        try simp only [Act.put,qZ]
        refine tY 4 ?_
        try simp only [Act.put,qZ]
        refine tY 5 ?_
        try simp only [Act.put,qZ]
        refine tY 6 ?_
        try simp only [Act.put,qZ]
        refine tY 7 ?_
        try simp only [Act.put,qZ]
        refine tY 8 ?_
        try simp only [Act.put,qZ]
        refine tR 9 fun K hK=>?_
        try simp only [qZ]
        go_simp
        go_at_call 107
        refine (HIS.out _ _ _ (hrow.later bX)).mono ?_
        rintro e w8 ⟨rfl,hb_w8⟩
        have k8:Below W.heap.size W w8:=bX
        have hs8:=k8.size
        have mw80:w8.cell? ⟨w.heap.size,3,none⟩=some (.slice (some ⟨g,0,none⟩) h.l.length v2cv):=cX hb_w8
        have mw81:w8.cell? ⟨wA.heap.size,0,none⟩=some (.int .i64 (jo:Nat)):=cX hb_w8
        have mw82:w8.cell? ⟨wA.heap.size,1,none⟩=some (.int .i64 (ko:Nat)):=cX hb_w8
        have mw83:w8.cell? ⟨wA.heap.size,3,none⟩=some (.int .i64 o.n):=cX hb_w8
        have mw84:w8.cell? ⟨wA.heap.size,4,none⟩=some (.int .u64 o.m):=cX hb_w8
        have mw85:w8.cell? ⟨g,jo * 8 + 5,none⟩=some (.int .i64 (nth h.l jo).mn):=cX hb_w8
        have mw86:w8.cell? ⟨g,jo * 8 + 6,none⟩=some (.slice Mm (nth h.l jo).mw.length cm):=cX hb_w8
        have mw87:w8.cell? ⟨w6.heap.size,0,none⟩=some (.int .i64 (jr:Nat)):=cX hb_w8
        have mw88:w8.cell? ⟨w6.heap.size,1,none⟩=some (.int .i64 (kr:Nat)):=cX hb_w8
        have mw89:w8.cell? ⟨g,jr * 8 + 5,none⟩=some (.int .i64 (nth h.l jr).mn):=cX hb_w8
        have mw810:w8.cell? ⟨g,jr * 8 + 6,none⟩=some (.slice Mr (nth h.l jr).mw.length cmr):=cX hb_w8
        try go_wp2_with fail
        refine hK.out _ _ ?_ fun _=>?_
        ·exact kS
        clear hK K
        try simp only [Act.put,qZ]
        refine tY 10 ?_
        try simp only [Act.put,qZ]
        refine tY 11 ?_
        try simp only [Act.put,qZ]
        refine tY 12 ?_
        try simp only [Act.put,qZ]
        refine tY 13 ?_
        try simp only [Act.put,qZ]
        refine tR 14 fun K hK=>?_
        try simp only [qZ]
        go_simp
        go_at_call 97
        refine (HIX.out _).mono ?_
        rintro e w9 ⟨rfl,hb_w9⟩
        have k9:Below W.heap.size W w9:=bX
        have hs9:=k9.size
        have mw90:w9.cell? ⟨w.heap.size,3,none⟩=some (.slice (some ⟨g,0,none⟩) h.l.length v2cv):=cX hb_w9
        have mw91:w9.cell? ⟨wA.heap.size,0,none⟩=some (.int .i64 (jo:Nat)):=cX hb_w9
        have mw92:w9.cell? ⟨wA.heap.size,1,none⟩=some (.int .i64 (ko:Nat)):=cX hb_w9
        have mw93:w9.cell? ⟨wA.heap.size,3,none⟩=some (.int .i64 o.n):=cX hb_w9
        have mw94:w9.cell? ⟨wA.heap.size,4,none⟩=some (.int .u64 o.m):=cX hb_w9
        have mw95:w9.cell? ⟨g,jo * 8 + 5,none⟩=some (.int .i64 (nth h.l jo).mn):=cX hb_w9
        have mw96:w9.cell? ⟨g,jo * 8 + 6,none⟩=some (.slice Mm (nth h.l jo).mw.length cm):=cX hb_w9
        have mw97:w9.cell? ⟨w6.heap.size,0,none⟩=some (.int .i64 (jr:Nat)):=cX hb_w9
        have mw98:w9.cell? ⟨w6.heap.size,1,none⟩=some (.int .i64 (kr:Nat)):=cX hb_w9
        have mw99:w9.cell? ⟨g,jr * 8 + 5,none⟩=some (.int .i64 (nth h.l jr).mn):=cX hb_w9
        have mw910:w9.cell? ⟨g,jr * 8 + 6,none⟩=some (.slice Mr (nth h.l jr).mw.length cmr):=cX hb_w9
        try go_wp2_with fail
        refine hK.out _ _ ?_ fun _=>?_
        ·exact kS
        clear hK K
        try simp only [Act.put,qZ]
        refine tR 15 fun K hK=>?_
        try simp only [qZ]
        go_simp
        refine hK.out _ _ ?_ fun _=>?_
        ·exact kS
        clear hK K
        try simp only [Act.put,qZ]
        refine tY 16 ?_
        try simp only [Act.put,qZ]
        refine tY 17 ?_
        try simp only [Act.put,qZ]
        refine tR 18 fun K hK=>?_
        try simp only [qZ]
        go_simp
        refine hK.out _ _ ?_ fun _=>?_
        ·exact kS
        clear hK K
        try simp only [Act.put,qZ]
        refine tY 19 ?_
        try simp only [Act.put,qZ]
        refine tY 20 ?_
        try simp only [Act.put,qZ]
        refine tY 21 ?_
        try simp only [Act.put,qZ]
        refine tY 22 ?_
        try simp only [Act.put,qZ]
        refine tY 23 ?_
        try simp only [Act.put,qZ]
        refine tY 24 ?_
        try simp only [Act.put,qZ]
        refine tY 25 ?_
        try simp only [Act.put,qZ]
        refine tY 26 ?_
        try simp only [Act.put,qZ]
        refine tY 27 ?_
        try simp only [Act.put,qZ]
        refine tY 28 ?_
        try simp only [Act.put,qZ]
        refine tR 29 fun K hK=>?_
        try simp only [qZ]
        go_simp
        go_at_call 107
        refine (HIR.out _ _ _ (hrowr.later bX)).mono ?_
        rintro e w10 ⟨rfl,hb_w10⟩
        have k10:Below W.heap.size W w10:=bX
        have hs10:=k10.size
        have mw100:w10.cell? ⟨w.heap.size,3,none⟩=some (.slice (some ⟨g,0,none⟩) h.l.length v2cv):=cX hb_w10
        have mw101:w10.cell? ⟨wA.heap.size,0,none⟩=some (.int .i64 (jo:Nat)):=cX hb_w10
        have mw102:w10.cell? ⟨wA.heap.size,1,none⟩=some (.int .i64 (ko:Nat)):=cX hb_w10
        have mw103:w10.cell? ⟨wA.heap.size,3,none⟩=some (.int .i64 o.n):=cX hb_w10
        have mw104:w10.cell? ⟨wA.heap.size,4,none⟩=some (.int .u64 o.m):=cX hb_w10
        have mw105:w10.cell? ⟨g,jo * 8 + 5,none⟩=some (.int .i64 (nth h.l jo).mn):=cX hb_w10
        have mw106:w10.cell? ⟨g,jo * 8 + 6,none⟩=some (.slice Mm (nth h.l jo).mw.length cm):=cX hb_w10
        have mw107:w10.cell? ⟨w6.heap.size,0,none⟩=some (.int .i64 (jr:Nat)):=cX hb_w10
        have mw108:w10.cell? ⟨w6.heap.size,1,none⟩=some (.int .i64 (kr:Nat)):=cX hb_w10
        have mw109:w10.cell? ⟨g,jr * 8 + 5,none⟩=some (.int .i64 (nth h.l jr).mn):=cX hb_w10
        have mw1010:w10.cell? ⟨g,jr * 8 + 6,none⟩=some (.slice Mr (nth h.l jr).mw.length cmr):=cX hb_w10
        try go_wp2_with fail
        refine hK.out _ _ ?_ fun _=>?_
        ·exact kS
        clear hK K
        try simp only [Act.put,qZ]
        refine tY 30 ?_
        try simp only [Act.put,qZ]
        refine tR 31 fun K hK=>?_
        try simp only [qZ]
        go_simp
        refine hK.out _ _ ?_ fun _=>?_
        ·exact kS
        clear hK K
        try simp only [Act.put,qZ]
        refine wpAnyH_done (by kernel_rfl) ?_ _
        have Z9:=Z6.later k10
        have b9:=b7.trans (k10.mono hs7)
        obtain hrb | hrb:r.b=false ∨ r.b=true:=by cases r.b <;> simp
        ·obtain ⟨e1,rfl⟩:=HBD.out hob hbt (by trivial) hrb
         subst e1
         have R9:=HR5.out.later b9
         obtain ⟨x0,x1,x2,x3,_,_,_,_⟩:=HX5.out.later b9
         obtain ⟨zz0,zz1,zz2,zz3,fz0,fz1,fz2,fz3⟩:=id R9
         have E9:=R9.all (.slice (some ⟨gA,oA,none⟩) h.ws.length v2ca) (.int .i64 h.n) (.slice v2U h.us.length v2cu) (.slice (some ⟨g,0,none⟩) h.l.length v2cv)
         have HM9:=Lib.hid ((HW5.out.later b9).all (b:=w.heap.size + 1) (by omega) (.slice (some ⟨gA,oA,none⟩) h.ws.length v2ca) (.int .i64 h.n) (.slice v2U h.us.length v2cu) (.slice (some ⟨g,0,none⟩) h.l.length v2cv)).hm
         have b10:=below_all (HB5.out.trans (b9.mono HB5.out.size)) (b:=w.heap.size + 1) (by omega) (.slice (some ⟨gA,oA,none⟩) h.ws.length v2ca) (.int .i64 h.n) (.slice v2U h.us.length v2cu) (.slice (some ⟨g,0,none⟩) h.l.length v2cv)
         rw [hrb]
         go_wp2
         exact bodyPost_ret (res_hp2 rfl rfl E9) rfl ⟨⟨some ⟨gA,oA,none⟩,v2ca,v2U,v2cu,some ⟨g,0,none⟩,v2cv⟩,rfl,HM9.out,b10⟩
        ·have HL2':=Lib.hid (HST.out (fun _ _ _=>hrb))
         rw [hrb]
         go_wp2
         go_roundw
         case rel=>first | exact ⟨f + 1,by go_num,by have:=HFN.out;omega,HL2',Z9,b9⟩ | exact ⟨_,_,.int .i64 ((f + 1:Nat):Int),⟨f + 1,rfl,by have:=HFN.out;omega,HL2',Z9,b9⟩,rfl,rfl,by first | go_num | simp⟩
         case measure=>have:=HFN.out;simp [intOf];omega
    ·obtain rfl:f=n:=by omega
     have f2:decide ((f:Int) < o.n)=false:=decide_eq_false (by have:=HNN.out;omega)
     have HL4:=Lib.hid (HL2.out (by rw [HNT.out];exact HL.out))
     go_wp2
     go_roundw
     case rel=>exact ⟨j + 1,by go_num,by omega,HL4,hb⟩
     case measure=>simp [intOf];omega
  ·obtain rfl:j=os.length:=by omega
   have HCL:Hid (ClosedH h):=Lib.hid (HTU.out.2 fun o ho=>by
    obtain ⟨i,hi,rfl⟩:=List.getElem_of_mem ho
    exact HD.out i hi hi)
   obtain ⟨e1,rfl⟩:=HY.out HCL.out
   subst e1
   have X6:=HX5.out.later hb
   have R6:=HR5.out.later hb
   have b6:=HB5.out.trans (hb.mono HB5.out.size)
   have W6:OwnsH wr w1.heap.size ⟨some ⟨gA,oA,none⟩,v2ca,v2U,v2cu,v2V,v2cv⟩ ⟨h.ws,h.n,h.us,mapK trnD h.l 0⟩:=by
    rw [mapK_zero]
    exact HW5.out.later hb
   clear HD HN HY HTU HOB HAT hb
   obtain ⟨x0,x1,x2,x3,fx0,fx1,fx2,fx3⟩:=id X6
   go_wp2_with fail
   clear x0 x1 x2 x3 fx0 fx1 fx2 fx3
   generalize wr=wA at *
   go_loopw [95] (fun ii wr=>∃ k:Nat,ii=.int .i64 (k:Nat)∧k ≤ h.l.length∧OwnsH wr w1.heap.size ⟨some ⟨gA,oA,none⟩,v2ca,v2U,v2cu,v2V,v2cv⟩ ⟨h.ws,h.n,h.us,mapK trnD h.l k⟩∧B4 wr w.heap.size (.slice (some ⟨gA,oA,none⟩) h.ws.length v2ca) (.int .i64 h.n) (.slice v2U h.us.length v2cu) (.slice v2V h.l.length v2cv)∧B4 wr (w.heap.size + 1) (.slice none 0 0) (.int .i64 0) (.slice none 0 0) (.slice none 0 0)∧Below w.heap.size w wr) (fun ii _=>h.l.length - (intOf ii).toNat)
   case atStart=>exact ⟨0,rfl,Nat.zero_le _,W6,X6,R6,b6⟩
   case round=>
    clear W6 X6 R6 b6
    obtain ⟨k,rfl,hk,hW,X,R,hb⟩:=hrel
    have hRl:=R.lt
    have hsr:=hb.size
    by_cases hlt:k < h.l.length
    ·have hlk:k < (mapK trnD h.l k).length:=by rw [mapK_len];exact hlt
     obtain ⟨g,A,ca,Mm,cm,hV,hgB,hgl,c8,oA',oM,fz⟩:=hW.span hlk
     have e1:nth (mapK trnD h.l k) k=nth h.l k:=by rw [mapK_nth _ _ _ _ hlt,if_neg (by omega)]
     simp only at hV
     subst hV
     have c7:=c8.c7
     have f7:=fz (k * 8 + 7)
     obtain ⟨x0,x1,x2,x3,fx0,fx1,fx2,fx3⟩:=id X
     have i1:(k:Int) < (h.l.length:Int):=by omega
     have i2:(0:Int) ≤ (k:Int):=by omega
     have W7:=hW.set8 (g:=g) rfl (i:=k) (j:=7) (u:=.bool false) hlk (by omega) (trnD (nth (mapK trnD h.l k) k)) rfl rfl (fun A ca M cm=>rfl)
     have e2:setL ⟨h.ws,h.n,h.us,mapK trnD h.l k⟩ k (trnD (nth (mapK trnD h.l k) k))=⟨h.ws,h.n,h.us,mapK trnD h.l (k + 1)⟩:=by
      unfold setL
      simp only
      rw [e1,← mapK_succ trnD h.l k hlt]
     try simp only at W7
     rw [e2] at W7
     have R7:=R.far (p:=⟨g,k * 8 + 7,none⟩) (by show g ≠ w.heap.size + 1;omega) (.bool false)
     have X7:=X.far (p:=⟨g,k * 8 + 7,none⟩) (by show g ≠ w.heap.size;omega) (.bool false)
     have b7:=hb.setCell (p:=⟨g,k * 8 + 7,none⟩) (by show w.heap.size ≤ g;omega) (.bool false)
     clear c8 oA' oM fz hW X R hb e1 e2 hlk
     go_wp2
     go_roundw
     case rel=>first | exact ⟨k + 1,by go_num,by omega,W7,X7,R7,b7⟩ | exact ⟨_,_,.int .i64 ((k + 1:Nat):Int),⟨k + 1,rfl,by omega,W7,X7,R7,b7⟩,rfl,rfl,by first | go_num | simp⟩
     case measure=>simp [intOf];omega
    ·obtain rfl:k=h.l.length:=by omega
     rw [mapK_all] at hW
     have hW':OwnsH wr w1.heap.size ⟨some ⟨gA,oA,none⟩,v2ca,v2U,v2cu,v2V,v2cv⟩ (trnH h):=hW
     obtain ⟨x0,x1,x2,x3,fx0,fx1,fx2,fx3⟩:=id X
     obtain ⟨z0,z1,z2,z3,fz0,fz1,fz2,fz3⟩:=id R
     have E9:=R.all (.slice (some ⟨gA,oA,none⟩) h.ws.length v2ca) (.int .i64 h.n) (.slice v2U h.us.length v2cu) (.slice v2V h.l.length v2cv)
     have HM9:=Lib.hid (hW'.all (b:=w.heap.size + 1) (by omega) (.slice (some ⟨gA,oA,none⟩) h.ws.length v2ca) (.int .i64 h.n) (.slice v2U h.us.length v2cu) (.slice v2V h.l.length v2cv)).hm
     have b9:=below_all hb (b:=w.heap.size + 1) (by omega) (.slice (some ⟨gA,oA,none⟩) h.ws.length v2ca) (.int .i64 h.n) (.slice v2U h.us.length v2cu) (.slice v2V h.l.length v2cv)
     have HUL2:=HTL.out
     clear hW hW' X R
     go_wp2
     exact bodyPost_ret (res_hp2 rfl rfl E9) rfl ⟨⟨some ⟨gA,oA,none⟩,v2ca,v2U,v2cu,v2V,v2cv⟩,by rw [HUL2];rfl,HM9.out,b9⟩
theorem xturnH_any (hm:HM w w.heap.size v h) (h2:h.l.length ≤ 17592186044416) (h':Hp) (y:Int) (hE:TrnE h h' y) :
  Calls Tryz.prog 39 #[hpV v h] w fun e w'=>GotH w h' y e w':=by
 rcases hE with ⟨hk,rfl,rfl⟩ | ⟨hk,hsw,rfl,rfl⟩ | ⟨hk,hsw,hc,rfl,rfl⟩ | ⟨hk,hsw,hc,rfl,rfl⟩
 ·exact xturn_n hm h2 hk
 ·exact xturn_u hm h2 hk hsw
 ·exact xturn_m hm h2 hk hsw _ _ (.inl ⟨hc,rfl,rfl⟩)
 ·exact xturn_m hm h2 hk hsw _ _ (.inr ⟨hc,rfl,rfl⟩)
end
def gonS (os:List Ob) (i:Nat):List Ob:=os.filter fun o=>o.i == i && !o.c
def clrO (ws:List Nat) (os:List Ob):List Nat:=os.foldl (fun ws o=>overTo ws o.a (fun _=>0) (o.n.toNat + 1)) ws
def delO (aw:List Nat) (os:List Ob):List Nat:=os.foldl (fun aw o=>putW aw o.k false) aw
theorem gonS_app (os os':List Ob) (i:Nat):gonS (os ++ os') i=gonS os i ++ gonS os' i:=by unfold gonS;rw [List.filter_append]
theorem gonS_one (o:Ob) (i:Nat):gonS [o] i=if o.i == i && !o.c then [o] else []:=by
 unfold gonS
 rcases h:(o.i == i && !o.c) with _ | _ <;> simp [List.filter,h]
theorem gonS_mem {os:List Ob} {i:Nat} {o:Ob}:o ∈ gonS os i ↔ o ∈ os∧o.i=i∧o.c=false:=by
 unfold gonS
 rw [List.mem_filter]
 simp
theorem clrO_snoc (ws:List Nat) (os:List Ob) (o:Ob):clrO ws (os ++ [o])=overTo (clrO ws os) o.a (fun _=>0) (o.n.toNat + 1):=by simp [clrO]
theorem delO_snoc (aw:List Nat) (os:List Ob) (o:Ob):delO aw (os ++ [o])=putW (delO aw os) o.k false:=by simp [delO]
theorem snoc_ind {P:List Ob → Prop} (h0:P []) (h1:∀ l o,P l → P (l ++ [o])) (l:List Ob):P l:=by
 have:∀ n,∀ l:List Ob,l.length=n → P l:=by
  intro n
  induction n with
  | zero=>intro l hl;rw [List.eq_nil_of_length_eq_zero hl];exact h0
  | succ n ih=>
   intro l hl
   have hne:l ≠ []:=by intro e;rw [e] at hl;cases hl
   rw [← List.dropLast_concat_getLast hne]
   exact h1 _ _ (ih _ (by rw [List.length_dropLast];omega))
 exact this _ l rfl
theorem clrO_len (ws:List Nat) (os:List Ob):(clrO ws os).length=ws.length:=by
 induction os using snoc_ind with
 | h0=>rfl
 | h1 l o ih=>rw [clrO_snoc,length_overTo,ih]
theorem delO_len (aw:List Nat) (os:List Ob):(delO aw os).length=aw.length:=by
 induction os using snoc_ind with
 | h0=>rfl
 | h1 l o ih=>rw [delO_snoc,length_putW,ih]
theorem words_delO {aw:List Nat} (hw:Words aw) (os:List Ob):Words (delO aw os):=by
 induction os using snoc_ind with
 | h0=>exact hw
 | h1 l o ih=>rw [delO_snoc];exact words_putW ih _ _
theorem clrO_at (ws:List Nat) (os:List Ob) (x:Nat):(clrO ws os).getD x 0=if ∃ o ∈ os,o.a ≤ x∧x < o.a + (o.n.toNat + 1) then 0 else ws.getD x 0:=by
 induction os using snoc_ind with
 | h0=>rw [if_neg (by rintro ⟨o,h,_⟩;cases h)];rfl
 | h1 l o ih=>
  rw [clrO_snoc,overTo_at,ih,clrO_len]
  by_cases h1:o.a ≤ x∧x < o.a + (o.n.toNat + 1)
  ·rw [if_pos (⟨o,by simp,h1⟩:∃ o' ∈ l ++ [o],o'.a ≤ x∧x < o'.a + (o'.n.toNat + 1))]
   by_cases h2:x < ws.length
   ·rw [if_pos ⟨h1.1,h1.2,h2⟩]
   ·have hz:ws.getD x 0=0:=by rw [List.getD_eq_getElem?_getD,List.getElem?_eq_none (by omega)];rfl
    rw [if_neg (fun q=>h2 q.2.2),hz,ite_self]
  ·rw [if_neg (fun q=>h1 ⟨q.1,q.2.1⟩)]
   by_cases h3:∃ o ∈ l,o.a ≤ x∧x < o.a + (o.n.toNat + 1)
   ·obtain ⟨p,h4,h5⟩:=id h3
    rw [if_pos h3,if_pos ⟨p,by simp [h4],h5⟩]
   ·rw [if_neg h3,if_neg]
    rintro ⟨p,h4,h5⟩
    rcases List.mem_append.1 h4 with h4 | h4
    ·exact h3 ⟨p,h4,h5⟩
    ·rw [List.mem_singleton] at h4
     subst h4
     exact h1 h5
theorem delO_tb {aw:List Nat} (os:List Ob) (hk:∀ o ∈ os,o.k < 64 * aw.length) (q:Nat):tb (delO aw os) q=true ↔ tb aw q=true∧∀ o ∈ os,o.k ≠ q:=by
 induction os using snoc_ind with
 | h0=>simp [delO]
 | h1 l o ih=>
  have ih:=ih fun p hp=>hk p (by simp [hp])
  rw [delO_snoc,tb_putW _ _ _ _ (by rw [delO_len];exact hk o (by simp))]
  by_cases e:q=o.k
  ·rw [if_pos e]
   constructor
   ·intro h;cases h
   ·rintro ⟨_,h⟩;exact absurd e.symm (h o (by simp))
  ·rw [if_neg e,ih]
   constructor
   ·rintro ⟨h1,h2⟩
    refine ⟨h1,fun p hp=>?_⟩
    rcases List.mem_append.1 hp with hp | hp
    ·exact h2 p hp
    ·rw [List.mem_singleton] at hp;subst hp;exact fun e2=>e e2.symm
   ·rintro ⟨h1,h2⟩
    exact ⟨h1,fun p hp=>h2 p (by simp [hp])⟩
theorem right_delO {n:Int} {aw:List Nat} (h:Right n aw) (os:List Ob) (hk:∀ o ∈ os,(o.k:Int) < n):Right n (delO aw os):=by
 induction os using snoc_ind with
 | h0=>exact h
 | h1 l o ih=>rw [delO_snoc];exact right_putW (ih fun p hp=>hk p (by simp [hp])) _ _ (hk o (by simp))
theorem gon_obsS {ws:List Nat} {d:Sd} (hs:d.s=false) (i k:Nat):(gonS (obsS ws d i k) i).map (·.a)=unmA d k:=by
 induction k with
 | zero=>rfl
 | succ k ih=>
  rw [obsS,unmA,gonS_app,List.map_append,ih]
  congr 1
  have hc:curW d=d.mw:=by unfold curW;rw [hs];rfl
  rcases ha:tb d.aw k with _ | _
  ·simp [gonS]
  ·simp only [if_true,Bool.true_and]
   rw [gonS_one]
   have e1:((obAt ws d i k).i == i && !(obAt ws d i k).c)=!tb d.mw k:=by
    show ((i == i) && !(tb (curW d) k))=_
    rw [hc]
    simp
   rw [e1]
   split <;> simp [obAt]
theorem gon_obsL {ws:List Nat} {l:List Sd} {i:Nat} {j:Nat} (hij:i < j):gonS (obsL ws l j) i=gonS (obsS ws (nth l i) i (slN (nth l i))) i:=by
 have h0:∀ j,j ≤ i → gonS (obsL ws l j) i=[]:=fun j hj=>by
  refine List.filter_eq_nil_iff.2 fun o ho=>?_
  obtain ⟨a,b,h1,_,_,rfl⟩:=mem_obsL ho
  have:(obAt ws (nth l a) a b).i=a:=rfl
  rw [this]
  simp
  intro e;omega
 induction j with
 | zero=>omega
 | succ j ih=>
  rw [obsL,gonS_app]
  by_cases e:j=i
  ·subst e
   rw [h0 j (Nat.le_refl _),List.nil_append]
  ·rw [ih (by omega)]
   have:gonS (obsS ws (nth l j) j (slN (nth l j))) i=[]:=by
    refine List.filter_eq_nil_iff.2 fun o ho=>?_
    obtain ⟨b,_,_,rfl⟩:=mem_obsS ho
    have:(obAt ws (nth l j) j b).i=j:=rfl
    rw [this]
    simp [e]
   rw [this,List.append_nil]
theorem gon_addrs {h:Hp} {i:Nat} (hi:i < h.l.length) (hs:(nth h.l i).s=false):(gonS (obsH h) i).map (·.a)=usD (nth h.l i):=by
 unfold obsH usD
 rw [gon_obsL hi]
 exact gon_obsS hs _ _
theorem gon_at {h:Hp} {i:Nat} (hi:i < h.l.length) {o:Ob} (ho:o ∈ gonS (obsH h) i):∃ k,k < slN (nth h.l i)∧tb (nth h.l i).aw k=true∧o=obAt h.ws (nth h.l i) i k:=by
 obtain ⟨h1,h2,_⟩:=gonS_mem.1 ho
 obtain ⟨j,k,_,h4,h5,rfl⟩:=mem_obsL h1
 have e:j=i:=h2
 subst e
 exact ⟨k,h4,h5,rfl⟩
theorem gon_has {h:Hp} {i:Nat} (hi:i < h.l.length) (hs:(nth h.l i).s=false) {k:Nat} (hk:k < slN (nth h.l i)) (ha:tb (nth h.l i).aw k=true) (hm:tb (nth h.l i).mw k=false):obAt h.ws (nth h.l i) i k ∈ gonS (obsH h) i:=by
 refine gonS_mem.2 ⟨obsL_mem hi hk ha,rfl,?_⟩
 show tb (curW (nth h.l i)) k=false
 unfold curW
 rw [hs]
 exact hm
theorem gon_words {h:Hp} (hk:OkH h) {i:Nat} (hi:i < h.l.length) (hs:(nth h.l i).s=false):clrO h.ws (gonS (obsH h) i)=clnW h.ws (swd (nth h.l i)) (usD (nth h.l i)) (usD (nth h.l i)).length:=by
 have key:∀ x,(clrO h.ws (gonS (obsH h) i)).getD x 0=(clnW h.ws (swd (nth h.l i)) (usD (nth h.l i)) (usD (nth h.l i)).length).getD x 0:=by
  intro x
  rw [clrO_at,clnW_at]
  have hroom:∀ k,k < slN (nth h.l i) → tb (nth h.l i).aw k=true → (unN (h.ws.getD (slA (nth h.l i) k) 0)).toNat + 1 ≤ swd (nth h.l i):=fun k h1 h2=>by
   obtain ⟨hu,hfit⟩:=(hk.filled.sound i hi k h1).head_ h2
   obtain ⟨b0,b1⟩:=unN_bounds (h.ws.getD (slA (nth h.l i) k) 0)
   have hr:=szn_room b0 b1 hfit
   omega
  by_cases hA:∃ o ∈ gonS (obsH h) i,o.a ≤ x∧x < o.a + (o.n.toNat + 1)
  ·rw [if_pos hA,if_pos]
   obtain ⟨o,ho,h1,h2⟩:=hA
   have hm:o.a ∈ usD (nth h.l i):=by rw [← gon_addrs hi hs];exact List.mem_map.2 ⟨o,ho,rfl⟩
   obtain ⟨k,hk1,hk2,rfl⟩:=gon_at hi ho
   have hr:=hroom k hk1 hk2
   obtain ⟨j,hj,e⟩:=List.getElem_of_mem hm
   have e2:(usD (nth h.l i)).getD j 0=(obAt h.ws (nth h.l i) i k).a:=by rw [← e,List.getD_eq_getElem?_getD,List.getElem?_eq_getElem hj];rfl
   refine ⟨j,hj,?_⟩
   rw [e2]
   have e3:(obAt h.ws (nth h.l i) i k).n=unN (h.ws.getD (slA (nth h.l i) k) 0):=rfl
   rw [e3] at h2
   exact ⟨h1,by omega⟩
  ·rw [if_neg hA]
   by_cases hB:∃ j,j < (usD (nth h.l i)).length∧(usD (nth h.l i)).getD j 0 ≤ x∧x < (usD (nth h.l i)).getD j 0 + swd (nth h.l i)
   ·rw [if_pos hB]
    obtain ⟨j,hj,h1,h2⟩:=hB
    have hm:(usD (nth h.l i)).getD j 0 ∈ usD (nth h.l i):=by rw [List.getD_eq_getElem?_getD,List.getElem?_eq_getElem hj];exact List.getElem_mem hj
    generalize (usD (nth h.l i)).getD j 0=a at *
    obtain ⟨k,hk1,hk2,hk3,rfl⟩:=unmA_mem hm
    have hg:=gon_has hi hs hk1 hk2 hk3
    have hn:¬ (slA (nth h.l i) k ≤ x∧x < slA (nth h.l i) k + ((unN (h.ws.getD (slA (nth h.l i) k) 0)).toNat + 1)):=fun q=>hA ⟨_,hg,q⟩
    have hz:=(hk.filled.sound i hi k hk1).rest (x - slA (nth h.l i) k) (by unfold takN;rw [hk2];simp only [if_true];omega) (by omega)
    rw [show slA (nth h.l i) k + (x - slA (nth h.l i) k)=x by omega] at hz
    exact hz
   ·rw [if_neg hB]
 refine List.ext_getElem (by rw [clrO_len,clnW_len]) fun n h1 h2=>?_
 have:=key n
 rwa [List.getD_eq_getElem?_getD,List.getD_eq_getElem?_getD,List.getElem?_eq_getElem h1,List.getElem?_eq_getElem h2] at this
theorem gon_bits {h:Hp} (hk:OkH h) {i:Nat} (hi:i < h.l.length) (hs:(nth h.l i).s=false) (hw:Words (nth h.l i).aw):delO (nth h.l i).aw (gonS (obsH h) i)=(clnD (nth h.l i)).aw:=by
 have ok:=hk.framed.spans.at_ hi
 have hks:=ok.slK
 have haw:=ok.aw
 have hss:=ok.sized.slots
 have hkk:∀ o ∈ gonS (obsH h) i,o.k < 64 * (nth h.l i).aw.length:=fun o ho=>by
  obtain ⟨k,h1,_,rfl⟩:=gon_at hi ho
  show k < _
  omega
 refine words_ext (words_delO hw _) ?_ ?_ fun q hq=>?_
 ·exact words_bothTo hw _
 ·rw [delO_len]
  show _=(bothTo (nth h.l i).aw (nth h.l i).mw (nth h.l i).mw.length).length
  rw [length_bothTo]
 ·rw [Bool.eq_iff_iff,delO_tb _ hkk,ok.cln_tb,Bool.and_eq_true]
  constructor
  ·rintro ⟨h1,h2⟩
   refine ⟨h1,?_⟩
   by_cases hqs:q < slN (nth h.l i)
   ·rcases hm:tb (nth h.l i).mw q with _ | _
    ·exact absurd rfl (h2 _ (gon_has hi hs hqs h1 hm))
    ·rfl
   ·rw [delO_len] at hq
    have:=ok.a.2.2.2 q (by have:=ok.an;omega) hq
    rw [this] at h1
    cases h1
  ·rintro ⟨h1,h2⟩
   refine ⟨h1,fun o ho=>?_⟩
   have h3:=(gonS_mem.1 ho).2.2
   obtain ⟨k,h4,_,rfl⟩:=gon_at hi ho
   intro e
   have e:k=q:=e
   subst e
   have h3:tb (curW (nth h.l i)) k=false:=h3
   unfold curW at h3
   rw [hs] at h3
   have h3:tb (nth h.l i).mw k=false:=h3
   rw [h3] at h2
   cases h2
def lastI (l:List Sd) (f:Int):Nat → Int
 | 0=>-1
 | k + 1=>if (nth l k).f=f then (k:Int) else lastI l f k
theorem lastI_eq {l:List Sd} {f r:Int} (hl:OkL l) (hI:IdxE l (fun d=>d.f == f) r):lastI l f l.length=r:=by
 rcases hI with ⟨rfl,hn⟩ | ⟨i,rfl,hi,hp,_⟩
 ·have:∀ k,k ≤ l.length → lastI l f k=-1:=by
   intro k
   induction k with
   | zero=>intro _;rfl
   | succ k ih=>
    intro hk
    have:=hn k (by omega)
    simp only [beq_eq_false_iff_ne,ne_eq] at this
    rw [lastI,if_neg this,ih (by omega)]
  exact this _ (Nat.le_refl _)
 ·simp only [beq_iff_eq] at hp
  have hne:∀ k,k < l.length → k ≠ i → (nth l k).f ≠ f:=by
   intro k hk hki e
   rcases Nat.lt_or_gt_of_ne hki with hlt | hgt
   ·have h1:=hl.farther hlt hi
    have h2:=(hl.at_ hk).sized.slots
    omega
   ·have h1:=hl.farther hgt hk
    have h2:=(hl.at_ hi).sized.slots
    omega
  have:∀ k,k ≤ l.length → lastI l f k=if i < k then (i:Int) else -1:=by
   intro k
   induction k with
   | zero=>intro _;rfl
   | succ k ih=>
    intro hk
    rw [lastI]
    by_cases e:k=i
    ·subst e
     rw [if_pos hp,if_pos (by omega)]
    ·rw [if_neg (hne k (by omega) e),ih (by omega)]
     by_cases h2:i < k
     ·rw [if_pos h2,if_pos (by omega)]
     ·rw [if_neg h2,if_neg (by omega)]
  rw [this _ (Nat.le_refl _),if_pos hi]
def GotHw (w:World) (h:Hp) (t:List Nat) (y:Int) (e:Ending) (w':World):Prop:=∃ v A c,e=.returned (.tuple #[hpV v h,.slice A t.length c,.int .i64 y])∧HM w' w'.heap.size v h∧Row w' w'.heap.size A t∧Below w.heap.size w w'
theorem Row.none_ (w:World) (B:Nat) (A:Option Addr):Row w B A []:=⟨fun x hx=>(by cases hx),fun h=>(by simp at h)⟩
section
variable {w:World} {v:Hv} {h:Hp}
set_option maxHeartbeats 8000000 in
theorem xclean_n (hm:HM w w.heap.size v h) (h2:h.l.length ≤ 17592186044416) (f:Int) (hk:¬ OkH h) :
  Calls Tryz.prog 41 #[hpV v h,.int .i64 f] w fun e w'=>GotHw w (hp0) ([]) (2) e w':=by
 have X0:=(HIn.new hm 31).alloc (.cells #[.slice none 0 0,.int .i64 0,.slice none 0 0,.slice none 0 0] 31)
 have R0:=B4.new (w.alloc (.cells #[.slice v.A h.ws.length v.ca,.int .i64 h.n,.slice v.U h.us.length v.cu,.slice v.V h.l.length v.cv] 31)) (.slice none 0 0) (.int .i64 0) (.slice none 0 0) (.slice none 0 0) 31
 rw [World.size_alloc] at R0
 unfold GotHw
 have HCH:=Lib.hid fun (w:World) m=>xcheckH_any (w:=w) (v:=v) (h:=h) m h2 2 (.inr ⟨hk,rfl⟩)
 clear hk hm
 unfold hpV hpv at HCH ⊢
 obtain ⟨vA,vca,vU,vcu,vV,vcv⟩:=v
 obtain ⟨x0,x1,x2,x3,fx0,fx1,fx2,fx3⟩:=id X0.box
 simp only at *
 go_enter Tryz.func41,Tryz.ntmps41
 go_wp2_with fail
 go_at_call 22
 refine (HCH.out _ (by exact X0.m)).mono ?_
 rintro e w1 ⟨rfl,hb_w1⟩
 have b1:Below w.heap.size w w1:=bX
 have X1:=X0.later hb_w1
 have R1:=R0.later hb_w1
 have hs1:=R1.lt
 clear x0 x1 x2 x3 fx0 fx1 fx2 fx3 X0 R0 hb_w1
 obtain ⟨x0,x1,x2,x3,fx0,fx1,fx2,fx3⟩:=id X1.box
 obtain ⟨z0,z1,z2,z3,fz0,fz1,fz2,fz3⟩:=id R1
 have E9:=R1.all (.slice none 0 0) (.int .i64 0) (.slice none 0 0) (.slice none 0 0)
 have b9:=below_all b1 (b:=w.heap.size + 1) (by omega) (.slice none 0 0) (.int .i64 0) (.slice none 0 0) (.slice none 0 0)
 go_wp2
 exact bodyPost_ret (res_hp3 rfl rfl E9) rfl ⟨hv0,none,0,rfl,(OwnsH.zero _ 0).hm,Row.none_ _ _ _,b9⟩
set_option maxHeartbeats 8000000 in
theorem xclean_none (hm:HM w w.heap.size v h) (h2:h.l.length ≤ 17592186044416) (f:Int) (hk:OkH h) (hI:IdxE h.l (fun d=>d.f == f) (-1)) :
  Calls Tryz.prog 41 #[hpV v h,.int .i64 f] w fun e w'=>GotHw w (h) ([]) (3) e w':=by
 have X0:=(HIn.new hm 31).alloc (.cells #[.slice none 0 0,.int .i64 0,.slice none 0 0,.slice none 0 0] 31)
 have R0:=B4.new (w.alloc (.cells #[.slice v.A h.ws.length v.ca,.int .i64 h.n,.slice v.U h.us.length v.cu,.slice v.V h.l.length v.cv] 31)) (.slice none 0 0) (.int .i64 0) (.slice none 0 0) (.slice none 0 0) 31
 rw [World.size_alloc] at R0
 unfold GotHw
 have HCH:=Lib.hid fun (w:World) m=>xcheckH_any (w:=w) (v:=v) (h:=h) m h2 0 (.inl ⟨hk,rfl⟩)
 have HCP:=Lib.hid fun (w:World) m=>hcopyO_any (w:=w) (v:=v) (h:=h) m hk
 have HLI:=Lib.hid (lastI_eq hk.framed.spans hI)
 have h256:=hk.framed.spans.1
 clear hk hm hI
 unfold hpV hpv at HCH HCP  ⊢
 obtain ⟨vA,vca,vU,vcu,vV,vcv⟩:=v
 obtain ⟨x0,x1,x2,x3,fx0,fx1,fx2,fx3⟩:=id X0.box
 simp only at *
 go_enter Tryz.func41,Tryz.ntmps41
 go_wp2_with fail
 go_at_call 22
 refine (HCH.out _ (by exact X0.m)).mono ?_
 rintro e w1 ⟨rfl,hb_w1⟩
 have b1:Below w.heap.size w w1:=bX
 have X1:=X0.later hb_w1
 have R1:=R0.later hb_w1
 have hs1:=R1.lt
 clear x0 x1 x2 x3 fx0 fx1 fx2 fx3 X0 R0 hb_w1
 obtain ⟨x0,x1,x2,x3,fx0,fx1,fx2,fx3⟩:=id X1.box
 obtain ⟨z0,z1,z2,z3,fz0,fz1,fz2,fz3⟩:=id R1
 go_wp2_with fail
 go_at_call 14
 refine (HCP.out _ (by exact X1.m)).mono ?_
 rintro e w2 ⟨v2,rfl,c2,hb_w2⟩
 have b2:=b1.trans (hb_w2.mono b1.size)
 have BX:=X1.box.later hb_w2
 have R2:=R1.later hb_w2
 have hs2:=hb_w2.size
 have BX3:=BX.all (.slice v2.A h.ws.length v2.ca) (.int .i64 h.n) (.slice v2.U h.us.length v2.cu) (.slice v2.V h.l.length v2.cv)
 have R3:=R2.farA (b':=w.heap.size) (by omega) (.slice v2.A h.ws.length v2.ca) (.int .i64 h.n) (.slice v2.U h.us.length v2.cu) (.slice v2.V h.l.length v2.cv)
 have C3:=c2.farA (b:=w.heap.size) (by omega) (.slice v2.A h.ws.length v2.ca) (.int .i64 h.n) (.slice v2.U h.us.length v2.cu) (.slice v2.V h.l.length v2.cv)
 have b3:=below_all b2 (b:=w.heap.size) (Nat.le_refl _) (.slice v2.A h.ws.length v2.ca) (.int .i64 h.n) (.slice v2.U h.us.length v2.cu) (.slice v2.V h.l.length v2.cv)
 clear x0 x1 x2 x3 fx0 fx1 fx2 fx3 z0 z1 z2 z3 fz0 fz1 fz2 fz3 X1 R1 R2 c2 b1 b2 hb_w2
 obtain ⟨x0,x1,x2,x3,fx0,fx1,fx2,fx3⟩:=id BX
 obtain ⟨y0,y1,y2,y3,fy0,fy1,fy2,fy3⟩:=id BX3
 obtain ⟨z0,z1,z2,z3,fz0,fz1,fz2,fz3⟩:=id R3
 go_wp2_with fail
 generalize ((((w2.setCell ⟨w.heap.size,0,none⟩ (.slice v2.A h.ws.length v2.ca)).setCell ⟨w.heap.size,1,none⟩ (.int .i64 h.n)).setCell ⟨w.heap.size,2,none⟩ (.slice v2.U h.us.length v2.cu)).setCell ⟨w.heap.size,3,none⟩ (.slice v2.V h.l.length v2.cv))=W3 at *
 obtain ⟨v2A,v2ca,v2U,v2cu,v2V,v2cv⟩:=v2
 simp only at *
 have HX3:Hid (B4 W3 w.heap.size (.slice v2A h.ws.length v2ca) (.int .i64 h.n) (.slice v2U h.us.length v2cu) (.slice v2V h.l.length v2cv)):=Lib.hid BX3
 have HR3:=Lib.hid R3
 have HC3:=Lib.hid C3
 have HB3:=Lib.hid b3
 have HV3:=Lib.hid C3.hm.v
 have hl3:=R3.lt
 have hs3:=b3.size
 have b0:Below W3.heap.size W3 W3:=Below.refl _ _
 clear x0 x1 x2 x3 fx0 fx1 fx2 fx3 y0 y1 y2 y3 fy0 fy1 fy2 fy3 z0 z1 z2 z3 fz0 fz1 fz2 fz3 BX BX3 R3 C3 b3
 go_loopw [7,26] (fun av ii wr=>∃ k:Nat,ii=.int .i64 (k:Nat)∧k ≤ h.l.length∧av=.int .i64 (lastI h.l f k)∧Below W3.heap.size W3 wr) (fun _ ii _=>h.l.length - (intOf ii).toNat)
 case atStart=>exact ⟨0,rfl,Nat.zero_le _,rfl,b0⟩
 case round=>
  clear b0
  obtain ⟨k,rfl,hk,rfl,hb⟩:=hrel
  have hsr:=hb.size
  by_cases hlt:k < h.l.length
  ·obtain ⟨g,off,hAe,hg,hc⟩:=HV3.out.at_ (by omega)
   obtain ⟨Aa,ca,Am,cm,c8,_,_⟩:=hc k hlt
   have HSU:=Lib.hid (show lastI h.l f (k + 1)=if (nth h.l k).f=f then (k:Int) else lastI h.l f k from rfl)
   obtain ⟨d,hd⟩:∃ d,Hid (nth h.l k=d):=⟨_,Lib.hid rfl⟩
   rw [hd.out] at c8 HSU
   obtain ⟨s0,s1,s2,s3,s4,s5,s6,s7⟩:=id (c8.below hb hg)
   have i1:(k:Int) < (h.l.length:Int):=by omega
   have i2:(0:Int) ≤ (k:Int):=by omega
   have b9:=hb.trans ((Below.alloc (Below.refl _ _) (Nat.le_refl _) (.cells #[.int .i64 d.f,.int .i64 d.p,.int .i64 d.z,.int .i64 d.an,.slice Aa d.aw.length ca,.int .i64 d.mn,.slice Am d.mw.length cm,.bool d.s] 99):Below wr.heap.size wr (wr.alloc (.cells #[.int .i64 d.f,.int .i64 d.p,.int .i64 d.z,.int .i64 d.an,.slice Aa d.aw.length ca,.int .i64 d.mn,.slice Am d.mw.length cm,.bool d.s] 99))).mono hsr)
   obtain ⟨q,hq⟩:∃ q,Hid (lastI h.l f k=q):=⟨_,Lib.hid rfl⟩
   rw [hq.out] at HSU ⊢
   simp only at hAe
   subst hAe
   clear hc c8 hb
   by_cases hf:d.f=f
   ·have HL:=Lib.hid (HSU.out.trans (if_pos hf))
    have f1:(d.f == f)=true:=by simpa using hf
    clear HSU hf
    go_wp2
    go_roundw
    case rel=>first | exact ⟨k + 1,by go_num,by omega,by rw [HL.out],b9⟩ | exact ⟨_,_,.int .i64 (lastI h.l f (k + 1)),.int .i64 ((k + 1:Nat):Int),⟨k + 1,rfl,by omega,rfl,b9⟩,by rw [HL.out],by first | rfl | go_num,rfl⟩
    case measure=>simp [intOf];omega
   ·have HL:=Lib.hid (HSU.out.trans (if_neg hf))
    have f1:(d.f == f)=false:=by simpa using hf
    clear HSU hf
    go_wp2
    go_roundw
    case rel=>first | exact ⟨k + 1,by go_num,by omega,by rw [HL.out],b9⟩ | exact ⟨_,_,.int .i64 (lastI h.l f (k + 1)),.int .i64 ((k + 1:Nat):Int),⟨k + 1,rfl,by omega,rfl,b9⟩,by rw [HL.out],by first | rfl | go_num,rfl⟩
    case measure=>simp [intOf];omega
  ·obtain rfl:k=h.l.length:=by omega
   rw [HLI.out]
   obtain ⟨x0,x1,x2,x3,fx0,fx1,fx2,fx3⟩:=id (HX3.out.later hb)
   have R9:=HR3.out.later hb
   obtain ⟨z0,z1,z2,z3,fz0,fz1,fz2,fz3⟩:=id R9
   have E9:=R9.all (.slice v2A h.ws.length v2ca) (.int .i64 h.n) (.slice v2U h.us.length v2cu) (.slice v2V h.l.length v2cv)
   have HM9:=Lib.hid ((HC3.out.later hb).farA (b:=w.heap.size + 1) (by omega) (.slice v2A h.ws.length v2ca) (.int .i64 h.n) (.slice v2U h.us.length v2cu) (.slice v2V h.l.length v2cv)).hm
   have b9:=below_all (HB3.out.trans (hb.mono hs3)) (b:=w.heap.size + 1) (by omega) (.slice v2A h.ws.length v2ca) (.int .i64 h.n) (.slice v2U h.us.length v2cu) (.slice v2V h.l.length v2cv)
   go_wp2
   refine bodyPost_ret (res_hp3 rfl rfl E9) rfl ?_
   first | exact ⟨⟨v2A,v2ca,v2U,v2cu,v2V,v2cv⟩,none,0,rfl,HM9.out,Row.none_ _ _ _,b9⟩ | exact ⟨⟨v2A,v2ca,v2U,v2cu,v2V,v2cv⟩,rfl,HM9.out,Row.none_ _ _ _,b9⟩ | exact ⟨⟨v2A,v2ca,v2U,v2cu,v2V,v2cv⟩,none,⟨0,rfl⟩,HM9.out,Row.none_ _ _ _,b9⟩ | exact ⟨⟨v2A,v2ca,v2U,v2cu,v2V,v2cv⟩,none,rfl,HM9.out,Row.none_ _ _ _,b9⟩
set_option maxHeartbeats 8000000 in
theorem xclean_s (hm:HM w w.heap.size v h) (h2:h.l.length ≤ 17592186044416) (f:Int) (hk:OkH h) {i:Nat} (hI:IdxE h.l (fun d=>d.f == f) (i:Int)) (hs:(nth h.l i).s=true) :
  Calls Tryz.prog 41 #[hpV v h,.int .i64 f] w fun e w'=>GotHw w (h) ([]) (5) e w':=by
 have X0:=(HIn.new hm 31).alloc (.cells #[.slice none 0 0,.int .i64 0,.slice none 0 0,.slice none 0 0] 31)
 have R0:=B4.new (w.alloc (.cells #[.slice v.A h.ws.length v.ca,.int .i64 h.n,.slice v.U h.us.length v.cu,.slice v.V h.l.length v.cv] 31)) (.slice none 0 0) (.int .i64 0) (.slice none 0 0) (.slice none 0 0) 31
 rw [World.size_alloc] at R0
 unfold GotHw
 have HCH:=Lib.hid fun (w:World) m=>xcheckH_any (w:=w) (v:=v) (h:=h) m h2 0 (.inl ⟨hk,rfl⟩)
 have HCP:=Lib.hid fun (w:World) m=>hcopyO_any (w:=w) (v:=v) (h:=h) m hk
 have HLI:=Lib.hid (lastI_eq hk.framed.spans hI)
 have h256:=hk.framed.spans.1
 have hi:=hI.lt
 have HS:=Lib.hid hs
 clear hs
 clear hk hm hI
 unfold hpV hpv at HCH HCP  ⊢
 obtain ⟨vA,vca,vU,vcu,vV,vcv⟩:=v
 obtain ⟨x0,x1,x2,x3,fx0,fx1,fx2,fx3⟩:=id X0.box
 simp only at *
 go_enter Tryz.func41,Tryz.ntmps41
 go_wp2_with fail
 go_at_call 22
 refine (HCH.out _ (by exact X0.m)).mono ?_
 rintro e w1 ⟨rfl,hb_w1⟩
 have b1:Below w.heap.size w w1:=bX
 have X1:=X0.later hb_w1
 have R1:=R0.later hb_w1
 have hs1:=R1.lt
 clear x0 x1 x2 x3 fx0 fx1 fx2 fx3 X0 R0 hb_w1
 obtain ⟨x0,x1,x2,x3,fx0,fx1,fx2,fx3⟩:=id X1.box
 obtain ⟨z0,z1,z2,z3,fz0,fz1,fz2,fz3⟩:=id R1
 go_wp2_with fail
 go_at_call 14
 refine (HCP.out _ (by exact X1.m)).mono ?_
 rintro e w2 ⟨v2,rfl,c2,hb_w2⟩
 have b2:=b1.trans (hb_w2.mono b1.size)
 have BX:=X1.box.later hb_w2
 have R2:=R1.later hb_w2
 have hs2:=hb_w2.size
 have BX3:=BX.all (.slice v2.A h.ws.length v2.ca) (.int .i64 h.n) (.slice v2.U h.us.length v2.cu) (.slice v2.V h.l.length v2.cv)
 have R3:=R2.farA (b':=w.heap.size) (by omega) (.slice v2.A h.ws.length v2.ca) (.int .i64 h.n) (.slice v2.U h.us.length v2.cu) (.slice v2.V h.l.length v2.cv)
 have C3:=c2.farA (b:=w.heap.size) (by omega) (.slice v2.A h.ws.length v2.ca) (.int .i64 h.n) (.slice v2.U h.us.length v2.cu) (.slice v2.V h.l.length v2.cv)
 have b3:=below_all b2 (b:=w.heap.size) (Nat.le_refl _) (.slice v2.A h.ws.length v2.ca) (.int .i64 h.n) (.slice v2.U h.us.length v2.cu) (.slice v2.V h.l.length v2.cv)
 clear x0 x1 x2 x3 fx0 fx1 fx2 fx3 z0 z1 z2 z3 fz0 fz1 fz2 fz3 X1 R1 R2 c2 b1 b2 hb_w2
 obtain ⟨x0,x1,x2,x3,fx0,fx1,fx2,fx3⟩:=id BX
 obtain ⟨y0,y1,y2,y3,fy0,fy1,fy2,fy3⟩:=id BX3
 obtain ⟨z0,z1,z2,z3,fz0,fz1,fz2,fz3⟩:=id R3
 go_wp2_with fail
 generalize ((((w2.setCell ⟨w.heap.size,0,none⟩ (.slice v2.A h.ws.length v2.ca)).setCell ⟨w.heap.size,1,none⟩ (.int .i64 h.n)).setCell ⟨w.heap.size,2,none⟩ (.slice v2.U h.us.length v2.cu)).setCell ⟨w.heap.size,3,none⟩ (.slice v2.V h.l.length v2.cv))=W3 at *
 obtain ⟨v2A,v2ca,v2U,v2cu,v2V,v2cv⟩:=v2
 simp only at *
 have HX3:Hid (B4 W3 w.heap.size (.slice v2A h.ws.length v2ca) (.int .i64 h.n) (.slice v2U h.us.length v2cu) (.slice v2V h.l.length v2cv)):=Lib.hid BX3
 have HR3:=Lib.hid R3
 have HC3:=Lib.hid C3
 have HB3:=Lib.hid b3
 have HV3:=Lib.hid C3.hm.v
 have hl3:=R3.lt
 have hs3:=b3.size
 have b0:Below W3.heap.size W3 W3:=Below.refl _ _
 clear x0 x1 x2 x3 fx0 fx1 fx2 fx3 y0 y1 y2 y3 fy0 fy1 fy2 fy3 z0 z1 z2 z3 fz0 fz1 fz2 fz3 BX BX3 R3 C3 b3
 go_loopw [7,26] (fun av ii wr=>∃ k:Nat,ii=.int .i64 (k:Nat)∧k ≤ h.l.length∧av=.int .i64 (lastI h.l f k)∧Below W3.heap.size W3 wr) (fun _ ii _=>h.l.length - (intOf ii).toNat)
 case atStart=>exact ⟨0,rfl,Nat.zero_le _,rfl,b0⟩
 case round=>
  clear b0
  obtain ⟨k,rfl,hk,rfl,hb⟩:=hrel
  have hsr:=hb.size
  by_cases hlt:k < h.l.length
  ·obtain ⟨g,off,hAe,hg,hc⟩:=HV3.out.at_ (by omega)
   obtain ⟨Aa,ca,Am,cm,c8,_,_⟩:=hc k hlt
   have HSU:=Lib.hid (show lastI h.l f (k + 1)=if (nth h.l k).f=f then (k:Int) else lastI h.l f k from rfl)
   obtain ⟨d,hd⟩:∃ d,Hid (nth h.l k=d):=⟨_,Lib.hid rfl⟩
   rw [hd.out] at c8 HSU
   obtain ⟨s0,s1,s2,s3,s4,s5,s6,s7⟩:=id (c8.below hb hg)
   have i1:(k:Int) < (h.l.length:Int):=by omega
   have i2:(0:Int) ≤ (k:Int):=by omega
   have b9:=hb.trans ((Below.alloc (Below.refl _ _) (Nat.le_refl _) (.cells #[.int .i64 d.f,.int .i64 d.p,.int .i64 d.z,.int .i64 d.an,.slice Aa d.aw.length ca,.int .i64 d.mn,.slice Am d.mw.length cm,.bool d.s] 99):Below wr.heap.size wr (wr.alloc (.cells #[.int .i64 d.f,.int .i64 d.p,.int .i64 d.z,.int .i64 d.an,.slice Aa d.aw.length ca,.int .i64 d.mn,.slice Am d.mw.length cm,.bool d.s] 99))).mono hsr)
   obtain ⟨q,hq⟩:∃ q,Hid (lastI h.l f k=q):=⟨_,Lib.hid rfl⟩
   rw [hq.out] at HSU ⊢
   simp only at hAe
   subst hAe
   clear hc c8 hb
   by_cases hf:d.f=f
   ·have HL:=Lib.hid (HSU.out.trans (if_pos hf))
    have f1:(d.f == f)=true:=by simpa using hf
    clear HSU hf
    go_wp2
    go_roundw
    case rel=>first | exact ⟨k + 1,by go_num,by omega,by rw [HL.out],b9⟩ | exact ⟨_,_,.int .i64 (lastI h.l f (k + 1)),.int .i64 ((k + 1:Nat):Int),⟨k + 1,rfl,by omega,rfl,b9⟩,by rw [HL.out],by first | rfl | go_num,rfl⟩
    case measure=>simp [intOf];omega
   ·have HL:=Lib.hid (HSU.out.trans (if_neg hf))
    have f1:(d.f == f)=false:=by simpa using hf
    clear HSU hf
    go_wp2
    go_roundw
    case rel=>first | exact ⟨k + 1,by go_num,by omega,by rw [HL.out],b9⟩ | exact ⟨_,_,.int .i64 (lastI h.l f (k + 1)),.int .i64 ((k + 1:Nat):Int),⟨k + 1,rfl,by omega,rfl,b9⟩,by rw [HL.out],by first | rfl | go_num,rfl⟩
    case measure=>simp [intOf];omega
  ·obtain rfl:k=h.l.length:=by omega
   rw [HLI.out]
   obtain ⟨x0,x1,x2,x3,fx0,fx1,fx2,fx3⟩:=id (HX3.out.later hb)
   have R9:=HR3.out.later hb
   obtain ⟨z0,z1,z2,z3,fz0,fz1,fz2,fz3⟩:=id R9
   have E9:=R9.all (.slice v2A h.ws.length v2ca) (.int .i64 h.n) (.slice v2U h.us.length v2cu) (.slice v2V h.l.length v2cv)
   have HM9:=Lib.hid ((HC3.out.later hb).farA (b:=w.heap.size + 1) (by omega) (.slice v2A h.ws.length v2ca) (.int .i64 h.n) (.slice v2U h.us.length v2cu) (.slice v2V h.l.length v2cv)).hm
   have b9:=below_all (HB3.out.trans (hb.mono hs3)) (b:=w.heap.size + 1) (by omega) (.slice v2A h.ws.length v2ca) (.int .i64 h.n) (.slice v2U h.us.length v2cu) (.slice v2V h.l.length v2cv)
   obtain ⟨g,off,hAe,hg,hc⟩:=HV3.out.at_ (by omega)
   obtain ⟨Aa,ca,Am,cm,c8,_,_⟩:=hc i hi
   have s7:=(c8.below hb hg).c7
   rw [HS.out] at s7
   simp only at hAe
   subst hAe
   have i1:(i:Int) < (h.l.length:Int):=by omega
   have i2:(0:Int) ≤ (i:Int):=by omega
   have i3:decide ((i:Int) < 0)=false:=decide_eq_false (by omega)
   clear hc c8
   go_wp2
   refine bodyPost_ret (res_hp3 rfl rfl E9) rfl ?_
   first | exact ⟨⟨v2A,v2ca,v2U,v2cu,(some ⟨g,off,none⟩),v2cv⟩,none,0,rfl,HM9.out,Row.none_ _ _ _,b9⟩ | exact ⟨⟨v2A,v2ca,v2U,v2cu,(some ⟨g,off,none⟩),v2cv⟩,rfl,HM9.out,Row.none_ _ _ _,b9⟩ | exact ⟨⟨v2A,v2ca,v2U,v2cu,(some ⟨g,off,none⟩),v2cv⟩,none,⟨0,rfl⟩,HM9.out,Row.none_ _ _ _,b9⟩ | exact ⟨⟨v2A,v2ca,v2U,v2cu,(some ⟨g,off,none⟩),v2cv⟩,none,rfl,HM9.out,Row.none_ _ _ _,b9⟩
end
theorem OwnsS.grownA {w w':World} {B n cap:Nat} {row:Option Nat} {A:Option Addr} {vs:List Sv} (h:OwnsS w B A n cap vs) (hg:w.grownBy w' row) (hp:∀ q,row=some q → AptS q A vs):OwnsS w' B A n cap vs:=
 ⟨h.len,h.row_.kept hg (by
  rcases row with _ | q
  ·rcases hv:(Value.slice A n cap).ownBlock with _ | b
   ·exact .inl rfl
   ·exact .inr (by intro e;cases e)
  ·refine .inr fun e=>?_
   obtain ⟨_,⟨e1,_⟩ | ⟨b,_,_,e1,e2,_⟩⟩:=id h.row_
   ·injection e1 with e1;subst e1;cases e
   ·injection e1 with e1
    subst e1
    simp only [Value.ownBlock] at e
    injection e with e
    exact (hp q rfl).1 (by rw [← e])),
  fun x hx=>⟨(h.words x hx).1.grown hg (fun hl g e e2=>(((hp g e2.symm).2 x hx).1 hl e)),(h.words x hx).2.grown hg (fun hl g e e2=>(((hp g e2.symm).2 x hx).2 hl e))⟩,h.apart⟩
structure ApaH (w:World) (B:Nat) (row:Option Nat) (v:Hv) (h:Hp):Prop where
 a:Own w B v.A h.ws
 na:∀ q,row=some q → Apt q v.A h.ws
 u:Own w B v.U h.us
 nu:∀ q,row=some q → Apt q v.U h.us
 s:∃ vs,sdsOf vs=h.l∧OwnsS w B v.V h.l.length v.cv vs∧∀ q,row=some q → AptS q v.V vs
section
variable {w w':World} {B:Nat} {row:Option Nat} {v:Hv} {h:Hp}
theorem ApaH.owns (m:ApaH w B row v h):OwnsH w B v h:=by
 obtain ⟨vs,e,hs,_⟩:=m.s
 exact ⟨m.a,m.u,vs,e,hs⟩
theorem OwnsH.apaN (m:OwnsH w B v h):ApaH w B none v h:=by
 obtain ⟨vs,e,hs⟩:=m.s
 exact ⟨m.a,fun q hq=>(by cases hq),m.u,fun q hq=>(by cases hq),vs,e,hs,fun q hq=>(by cases hq)⟩
theorem ApaH.grown {q:Nat} (m:ApaH w B row v h) (hg:w.grownBy w' row) (hat:row=some q ∨ w.heap.size ≤ q):ApaH w' B (some q) v h:=by
 obtain ⟨vs,e,hs,ns⟩:=m.s
 refine ⟨m.a.grown hg (fun hl g e e2=>m.na g e2.symm hl e),fun p hp=>?_,m.u.grown hg (fun hl g e e2=>m.nu g e2.symm hl e),fun p hp=>?_,vs,e,hs.grownA hg ns,fun p hp=>?_⟩ <;> (injection hp with hp;subst hp;rcases hat with hat | hat)
 ·exact m.na q hat
 ·exact m.a.apt_lt hat
 ·exact m.nu q hat
 ·exact m.u.apt_lt hat
 ·exact ns q hat
 ·exact hs.aptS hat
theorem ApaH.later (m:ApaH w B row v h) (hb:Below w.heap.size w w'):ApaH w' B row v h:=by
 obtain ⟨vs,e,hs,ns⟩:=m.s
 exact ⟨m.a.later hb,m.na,m.u.later hb,m.nu,vs,e,hs.later hb,ns⟩
theorem ApaH.far (m:ApaH w B row v h) {p:Addr} (hp:p.block < B) (x:Value):ApaH (w.setCell p x) B row v h:=by
 obtain ⟨vs,e,hs,ns⟩:=m.s
 exact ⟨m.a.far (.inl hp) x,m.na,m.u.far (.inl hp) x,m.nu,vs,e,hs.far hp x,ns⟩
theorem ApaH.setA (m:ApaH w B row v h) {A':Option Addr} {ca':Nat} {ws':List Nat} (o:Own w B A' ws') (hq:∀ q,row=some q → Apt q A' ws'):ApaH w B row ⟨A',ca',v.U,v.cu,v.V,v.cv⟩ ⟨ws',h.n,h.us,h.l⟩:=
 ⟨o,hq,m.u,m.nu,m.s⟩
theorem ApaH.setL_ {g:Nat} (m:ApaH w B row v h) (hV:v.V=some ⟨g,0,none⟩) {i:Nat} (hi:i < h.l.length) {A':Option Addr} {ca':Nat} {aw':List Nat} (o:Own w B A' aw') (ng:Apt g A' aw') (nq:∀ q,row=some q → Apt q A' aw') (hl:0 < aw'.length) :
  ApaH ((w.setCell ⟨g,i * 8 + 3,none⟩ (.int .i64 (nth h.l i).an)).setCell ⟨g,i * 8 + 4,none⟩ (.slice A' aw'.length ca')) B row v (setL h i ⟨(nth h.l i).f,(nth h.l i).p,(nth h.l i).z,(nth h.l i).an,aw',(nth h.l i).mn,(nth h.l i).mw,(nth h.l i).s⟩):=by
 obtain ⟨vs,hvs,hS,nS⟩:=m.s
 have hil:i < vs.length:=by have:=hS.len;omega
 have hd:vs[i].d=nth h.l i:=by rw [← hvs];exact (nth_sds vs i hil).symm
 have hmem:vs[i] ∈ vs:=List.getElem_mem hil
 have hwo:=hS.words _ hmem
 have hS':=hS
 rw [hV] at hS'
 have hap:=hS'.apart _ hmem g rfl
 have s1:=hS'.set1 i 3 (.int .i64 (nth h.l i).an) hi (by omega) vs[i] (fun hv=>by rw [← hd];rfl) hwo.1 hwo.2 hap.1 hap.2
 rw [List.set_getElem_self] at s1
 have hwo2:=s1.words _ hmem
 rw [hd] at hwo2
 have s2:=s1.set1 i 4 (.slice A' aw'.length ca') hi (by omega) ⟨⟨(nth h.l i).f,(nth h.l i).p,(nth h.l i).z,(nth h.l i).an,aw',(nth h.l i).mn,(nth h.l i).mw,(nth h.l i).s⟩,A',ca',vs[i].M,vs[i].cm⟩ (fun hv=>by rw [← hd];rfl)
  (o.oth (p:=⟨g,i * 8 + 3,none⟩) ng _) hwo2.2 (ng hl) hap.2
 have hc0:=flat8_cell hS'.row_ hS'.len 0 (by omega) 0 (by omega) _ rfl
 have n1:=m.a.apt_span hc0
 have n2:=m.u.apt_span hc0
 refine ⟨(m.a.oth (p:=⟨g,i * 8 + 3,none⟩) n1 _).oth (p:=⟨g,i * 8 + 4,none⟩) n1 _,m.na,(m.u.oth (p:=⟨g,i * 8 + 3,none⟩) n2 _).oth (p:=⟨g,i * 8 + 4,none⟩) n2 _,m.nu,vs.set i ⟨⟨(nth h.l i).f,(nth h.l i).p,(nth h.l i).z,(nth h.l i).an,aw',(nth h.l i).mn,(nth h.l i).mw,(nth h.l i).s⟩,A',ca',vs[i].M,vs[i].cm⟩,?_,?_,fun q hq=>⟨(nS q hq).1,fun x hx=>?_⟩⟩
 ·unfold sdsOf at hvs ⊢
  rw [List.map_set,hvs]
  rfl
 ·have e:(setL h i ⟨(nth h.l i).f,(nth h.l i).p,(nth h.l i).z,(nth h.l i).an,aw',(nth h.l i).mn,(nth h.l i).mw,(nth h.l i).s⟩).l.length=h.l.length:=by simp [setL]
  rw [e,hV]
  exact s2
 ·rcases List.mem_or_eq_of_mem_set hx with hx | hx
  ·exact (nS q hq).2 x hx
  ·rw [hx]
   refine ⟨nq q hq,?_⟩
   have:=((nS q hq).2 _ hmem).2
   rw [hd] at this
   exact this
theorem ApaH.span {i:Nat} (m:ApaH w B row v h) (hi:i < h.l.length) :
  ∃ g A ca M cm,v.V=some ⟨g,0,none⟩∧B ≤ g∧g < w.heap.size∧Sp8 w g (i * 8) (nth h.l i) A ca M cm∧Own w B A (nth h.l i).aw∧Own w B M (nth h.l i).mw∧(∀ j,w.frozen? ⟨g,j,none⟩=false):=m.owns.span hi
end
theorem XRow.farN {w:World} {B:Nat} {A:Option Addr} {os:List Ob} (h:XRow w B A os) {p:Addr} (hp:∀ g off,A=some ⟨g,off,none⟩ → g ≠ p.block) (u:Value):XRow (w.setCell p u) B A os:=⟨fun hl=>by
 obtain ⟨g,off,e,hlt,hc⟩:=h.at_ hl
 have k:∀ o,(w.setCell p u).cell? ⟨g,o,none⟩=w.cell? ⟨g,o,none⟩:=fun o=>cO _ p ⟨g,o,none⟩ _ (fun e2=>hp g off e (by rw [e2]))
 exact ⟨g,off,e,hlt,fun i hi=>⟨(k _).trans (hc i hi).c0,(k _).trans (hc i hi).c1,(k _).trans (hc i hi).c2,(k _).trans (hc i hi).c3,(k _).trans (hc i hi).c4,(k _).trans (hc i hi).c5⟩⟩⟩
def delD (d:Sd) (G:List Ob):Sd:=⟨d.f,d.p,d.z,d.an,delO d.aw G,d.mn,d.mw,d.s⟩
def stK (h:Hp) (i:Nat) (G:List Ob):Hp:=⟨clrO h.ws G,h.n,h.us,h.l.set i (delD (nth h.l i) G)⟩
theorem stK_nil (h:Hp) {i:Nat} (hi:i < h.l.length):stK h i []=h:=by
 have:delD (nth h.l i) []=h.l[i]:=by
  unfold nth
  rw [List.getD_eq_getElem?_getD,List.getElem?_eq_getElem hi]
  rfl
 unfold stK
 rw [this,List.set_getElem_self]
 rfl
theorem stK_len (h:Hp) (i:Nat) (G:List Ob):(stK h i G).l.length=h.l.length:=by simp [stK]
theorem stK_ws (h:Hp) (i:Nat) (G:List Ob):(stK h i G).ws.length=h.ws.length:=clrO_len _ _
theorem stK_at (h:Hp) {i:Nat} (hi:i < h.l.length) (G:List Ob):nth (stK h i G).l i=delD (nth h.l i) G:=by
 show nth (h.l.set i _) i=_
 rw [nth_set _ _ _ _ hi,if_pos rfl]
theorem stK_snoc (h:Hp) {i:Nat} (hi:i < h.l.length) (G:List Ob) (o:Ob):stK h i (G ++ [o])=setL ⟨overTo (stK h i G).ws o.a (fun _=>0) (o.n.toNat + 1),h.n,h.us,(stK h i G).l⟩ i ⟨(nth h.l i).f,(nth h.l i).p,(nth h.l i).z,(nth h.l i).an,putW (delO (nth h.l i).aw G) o.k false,(nth h.l i).mn,(nth h.l i).mw,(nth h.l i).s⟩:=by
 unfold stK setL
 simp only
 rw [clrO_snoc,List.set_set]
 unfold delD
 rw [delO_snoc]
theorem stK_all {h:Hp} (hk:OkH h) {i:Nat} (hi:i < h.l.length) (hs:(nth h.l i).s=false) (hw:Words (nth h.l i).aw):setL (stK h i (gonS (obsH h) i)) i ⟨(nth h.l i).f,(nth h.l i).p,(nth h.l i).z,(nth h.l i).an,delO (nth h.l i).aw (gonS (obsH h) i),(nth h.l i).mn,(nth h.l i).mw,true⟩=cl1H h i:=by
 unfold stK setL cl1H
 simp only
 rw [gon_words hk hi hs,List.set_set,gon_bits hk hi hs hw]
 rfl
theorem filter_all (l:List Sd) (q:Sd → Bool) (h:∀ i,i < l.length → q (nth l i)=true):l.filter q=l:=by
 rw [List.filter_eq_self]
 intro d hd
 obtain ⟨i,hi,rfl⟩:=List.getElem_of_mem hd
 have:=h i hi
 unfold nth at this
 rwa [List.getD_eq_getElem?_getD,List.getElem?_eq_getElem hi] at this
def notAt (first:Int) (d:Sd):Bool:=!(d.f == first)
theorem DropE.filt {l:List Sd} {first:Int} {r:List Sd} {y:Int} (h:DropE l first r y) (ok:OkL l):r=l.filter (notAt first)∧((r.length=l.length∧y=3) ∨ (r.length < l.length∧y=0)):=by
 rcases h with ⟨h,_⟩ | ⟨_,hI,rfl,rfl⟩ | ⟨i,_,hI,rfl,rfl⟩
 ·exact absurd ok h
 ·refine ⟨(filter_all r _ fun i hi=>?_).symm,.inl ⟨rfl,rfl⟩⟩
  rcases hI with ⟨_,h2⟩ | ⟨j,h1,_⟩
  ·have h3:((nth r i).f == first)=false:=h2 i hi
   unfold notAt;rw [h3];rfl
  ·omega
 ·have hil:=hI.lt
  obtain ⟨hat,hbef⟩:(nth l i).f=first∧∀ j,j < i → (nth l j).f ≠ first:=by
   rcases hI with ⟨h1,_⟩ | ⟨j,h1,_,h3,h4⟩
   ·omega
   ·have:j=i:=by omega
    subst this
    exact ⟨by simpa using h3,fun q hq=>by simpa using h4 q hq⟩
  have hsp:l=l.take i ++ ([nth l i] ++ l.drop (i + 1)):=by
   have h1:=take_nth l i hil
   have h2:=(List.take_append_drop (i + 1) l).symm
   rw [h1,List.append_assoc] at h2
   exact h2
  refine ⟨?_,.inr ⟨by rw [List.length_append,List.length_take,List.length_drop];omega,rfl⟩⟩
  have e1:(l.take i).filter (notAt first)=l.take i:=filter_all _ _ fun j hj=>by
   rw [List.length_take] at hj
   have:nth (l.take i) j=nth l j:=by unfold nth;rw [List.getD_eq_getElem?_getD,List.getD_eq_getElem?_getD,List.getElem?_take_of_lt (by omega)]
   rw [this]
   have:=hbef j (by omega)
   unfold notAt
   simpa using this
  have e2:([nth l i]:List Sd).filter (notAt first)=[]:=by
   simp [notAt,hat]
  have e3:(l.drop (i + 1)).filter (notAt first)=l.drop (i + 1):=filter_all _ _ fun j hj=>by
   rw [List.length_drop] at hj
   have:nth (l.drop (i + 1)) j=nth l (i + 1 + j):=by unfold nth;rw [List.getD_eq_getElem?_getD,List.getD_eq_getElem?_getD,List.getElem?_drop]
   rw [this]
   have h1:=ok.apart (i:=i) (k:=i + 1 + j) (by omega) (by omega)
   have h2:=(ok.2.1 i hil).sized.slots
   unfold notAt
   simp
   omega
  have:l.filter (notAt first)=(l.take i ++ ([nth l i] ++ l.drop (i + 1))).filter (notAt first):=by rw [← hsp]
  rw [this,List.filter_append,List.filter_append,e1,e2,e3,List.nil_append]
section
variable {w:World} {A:Option Addr} {l:List Sd} (cap:Nat)
end
def DropC (w:World) (r:List Sd) (y:Int) (e:Ending) (w':World):Prop:=∃ A c vs,e=.returned (.tuple #[.slice A r.length c,.int .i64 y])∧sdsOf vs=r∧CopX w' w.heap.size A r.length c vs∧Below w.heap.size w w'
section
variable {w:World} {A:Option Addr} {l:List Sd} (cap:Nat)
set_option maxRecDepth 100000 in
set_option maxHeartbeats 8000000 in
theorem xdropC_any (hr:SRow w w.heap.size A l) (hl:l.length ≤ 17592186044416) (first:Int) (r:List Sd) (y:Int) (hE:DropE l first r y) (hok:OkL l) :
  Calls Tryz.prog 121 #[.slice A l.length cap,.int .i64 first] w fun e w'=>DropC w r y e w':=by
 obtain ⟨i0,hi,hz0,hz1,hz2⟩:=info_parts info_sp
 have HC:=Lib.hid fun (w:World) hr=>xcheckL_any (w:=w) (A:=A) (l:=l) cap hr hl 0 (.inl ⟨hok,rfl⟩)
 obtain ⟨hre,hy⟩:=hE.filt hok
 have HW:=Lib.hid hok.words
 have HRE:=Lib.hid hre
 have HY:=Lib.hid hy
 have h256:=hok.1
 clear hok hE hre hy
 go_enter Tryz.func121,Tryz.ntmps121
 go_wp2_with fail
 go_at_call 162
 refine (HC.out _ (hr.later bX)).mono ?_
 rintro e w1 ⟨rfl,hb_w1⟩
 obtain ⟨hc_w1,hf_w1⟩:=bcell hb_w1;have hs_w1:=hb_w1.size;(try simp only [zZ] at hs_w1)
 have b1:Below w.heap.size w w1:=bX
 clear hc_w1 hf_w1
 go_wp2_with fail
 go_loopw [6,14] (fun c ii wr=>∃ k:Nat,ii=.int .i64 (k:Nat)∧k ≤ l.length∧∃ (n:Nat) (Ac:Option Addr) (capc:Nat) (vs:List Sv),c=.slice Ac n capc∧n ≤ k∧Hid (sdsOf vs=(l.take k).filter (notAt first))∧CopX wr w.heap.size Ac n capc vs∧w.heap.size ≤ wr.heap.size∧Below w.heap.size w wr) (fun _ ii _=>l.length - (intOf ii).toNat)
 case atStart=>exact ⟨0,rfl,Nat.zero_le _,0,none,0,[],rfl,Nat.le_refl _,Lib.hid rfl,CopX.nil _ _,lX,b1⟩
 case round=>
  obtain ⟨k,rfl,hk,n,Ac,capc,vs,rfl,hnk,HS,oC,hsz,hb_wr⟩:=hrel
  have hsr:=hb_wr.size
  by_cases hlt:k < l.length
  ·obtain ⟨b,off,hAe,hbb,hc⟩:=(hr.later hb_wr).at_ (by omega)
   obtain ⟨Aa,ca,Am,cm,c8,ra,rm⟩:=hc k hlt
   obtain ⟨wa,wm⟩:=HW.out _ (nth_mem l k hlt)
   have hnx:=take_nth l k hlt
   obtain ⟨d,hd⟩:∃ d,Hid (nth l k=d):=⟨_,rfl⟩
   rw [hd.out] at c8 ra rm wa wm hnx
   have HNX:Hid ((l.take (k + 1)).filter (notAt first)=(l.take k).filter (notAt first) ++ if notAt first d then [d] else []):=Lib.hid (by
    rw [hnx,List.filter_append]
    congr 1
    cases h:notAt first d <;> simp [h])
   obtain ⟨c0,c1,c2,c3,c4,c5,c6,c7⟩:=id c8
   have i1:(k:Int) < (l.length:Int):=by omega
   have i2:(0:Int) ≤ (k:Int):=by omega
   have HO:=Lib.hid fun (w:World) ha hm=>xone_any (w:=w) (A:=Aa) (M:=Am) ca cm d ha hm (by omega) (by omega)
   unfold OneS at HO
   subst hAe
   clear hc hnx c8 wa wm
   obtain ⟨f,p,z,an,aw,mn,mw,s⟩:=d
   unfold spv at HO
   simp only at *
   by_cases h1:f=first
   ·have g1:(f != first)=false:=by simpa using h1
    have HN2:Hid ((l.take (k + 1)).filter (notAt first)=(l.take k).filter (notAt first)):=Lib.hid (by rw [HNX.out];simp [notAt,h1])
    clear h1 HNX
    go_wp2
    go_roundw
    case rel=>exact ⟨k + 1,by go_num,by omega,n,Ac,capc,vs,rfl,by omega,Lib.hid (by rw [HN2.out];exact HS.out),oC.later ((Below.refl _ _).alloc (Nat.le_refl _) _),lX,bX⟩
    case measure=>simp [intOf];omega
   ·have g1:(f != first)=true:=by simpa using h1
    have HN2:Hid ((l.take (k + 1)).filter (notAt first)=(l.take k).filter (notAt first) ++ [⟨f,p,z,an,aw,mn,mw,s⟩]):=Lib.hid (by rw [HNX.out];simp [notAt,h1])
    clear h1 HNX
    go_wp2_with fail
    go_at_call 150
    refine (HO.out _ (ra.later bX) (rm.later bX)).mono ?_
    rintro e w5 ⟨A5,C5,M5,D5,rfl,o5,o5',hb_w5⟩
    have hs_w5:=hb_w5.size
    (try simp only [zA] at hs_w5)
    have bb:Below wr.heap.size wr w5:=bX
    have hgA:=fun g h=>(oC.row_.lt g h).2
    have oC:=oC.later bb
    have oA:Own w5 w.heap.size A5 aw:=o5.mono lX
    have oM:Own w5 w.heap.size M5 mw:=o5'.mono lX
    have hvn:∀ g,Ac=some ⟨g,0,none⟩ → (0 < aw.length → A5 ≠ some ⟨g,0,none⟩)∧(0 < mw.length → M5 ≠ some ⟨g,0,none⟩):=fun g e=>by
     have hg:g < wr.heap.size:=hgA g (by rw [e];rfl)
     refine ⟨fun hl e2=>?_,fun hl e2=>?_⟩
     ·obtain ⟨q,e3,hq,_⟩:=o5.at_ hl
      (try simp only [zA] at hq)
      rw [e2] at e3
      injection e3 with e3
      injection e3 with e3
      omega
     ·obtain ⟨q,e3,hq,_⟩:=o5'.at_ hl
      (try simp only [zA] at hq)
      rw [e2] at e3
      injection e3 with e3
      injection e3 with e3
      omega
    have HSN:=Lib.hid fun (w6 w7:World) (g7 cap7:Nat) (hb:Below w5.heap.size w5 w6) h1 h2 h3=>CopX.snoc (w:=w6) (w':=w7) (g7:=g7) (cap':=cap7) (v:=⟨⟨f,p,z,an,aw,mn,mw,s⟩,A5,C5,M5,D5⟩) (oC.later hb) (oA.later hb) (oM.later hb) hvn h1 h2 h3
    have oR:=oC.row_
    clear o5 o5' oA oM hvn oC
    go_wp2_with (at_builtin;refine wpList_append_lies _ ?_ (.tmp 22) (.tmp 25) 29 ?_ w.heap.size 99 i0 _ 8 96 Tryz.underlying29 hi hz0 hz1 hz2 rfl (by omega) (.slice Ac n capc) (n) (flat8 vs) ?_ (oR.alloc _) ⟨w5.heap.size,0,none⟩ 1 1 (cells8 ⟨⟨f,p,z,an,aw,mn,mw,s⟩,A5,C5,M5,D5⟩) ?_ (by simp [cells8]) ?_ (by intro u hu;have:=flat8_one [(⟨⟨f,p,z,an,aw,mn,mw,s⟩,A5,C5,M5,D5⟩:Sv)] u (by simpa [flat8] using hu);exact this) (by omega) (by unfold maxLen;omega) (by omega) lX _ rfl ?_;rfl;rfl;rfl;rfl;(intro j u hj;rw [add_form];have hj8:j < 8:=(by have:=(List.getElem?_eq_some_iff.1 hj).1;simpa [cells8] using this);have hg:=heap_alloc_new w5 (.cells #[.int .i64 f,.int .i64 p,.int .i64 z,.int .i64 an,.slice A5 aw.length C5,.int .i64 mn,.slice M5 mw.length D5,.bool s] 99);rw [cell_of_row _ _ _ _ _ _ hg,Nat.zero_add,← hj];simp [cells8]);intro g cap7 w7 hown hg7 hat hlt;have hb_w7:Below w.heap.size _ w7:=(Below.refl _ _).grown hg7 lX (fun b hb=>oR.lt b hb |>.1);have hs_w7:=hb_w7.size;(try simp only [zA] at hs_w7);have oX:=HSN.out _ _ _ _ ((Below.refl w5.heap.size w5).alloc (Nat.le_refl _) _) hown hg7 (by rcases hat with h | h;exact .inl h;exact .inr (by rw [h];exact Nat.le_refl _));clear HSN oR hown hg7 hat)
    go_roundw
    case rel=>exact ⟨k + 1,by go_num,by omega,n + 1,some ⟨g,0,none⟩,cap7,_,rfl,by omega,Lib.hid (by rw [sds_app,HS.out,HN2.out];rfl),oX,lX,(hb_wr.trans (bb.mono hsz)).trans ((((Below.refl w.heap.size w5).alloc lX _)).trans hb_w7)⟩
    case measure=>simp [intOf];omega
  ·obtain rfl:k=l.length:=by omega
   have hsd:=HS.out
   rw [List.take_length,← HRE.out] at hsd
   have hrl:r.length=n:=by rw [← sds_len hsd];exact oC.len
   have HSR:Hid (SRow wr wr.heap.size Ac r):=Lib.hid (by rw [← hsd];exact oC.srow)
   have HRL:=Lib.hid hrl
   have HSD:=Lib.hid hsd
   rcases HY.out with ⟨h1,rfl⟩ | ⟨h1,rfl⟩
   ·have g1:((n:Int) == (l.length:Int))=true:=by simp;omega
    have g1':(n == l.length)=true:=by simp;omega
    clear h1 hsd hrl
    go_wp2
    go_ret2
    exact ⟨Ac,capc,vs,by rw [HRL.out];rfl,HSD.out,by rw [HRL.out];exact oC,hb_wr⟩
   ·have g1:((n:Int) == (l.length:Int))=false:=by simp;omega
    have g1':(n == l.length)=false:=by simp;omega
    clear h1 hsd hrl
    go_wp2
    go_ret2
    exact ⟨Ac,capc,vs,by rw [HRL.out];rfl,HSD.out,by rw [HRL.out];exact oC,hb_wr⟩
end
theorem Own.all4 {w:World} {B b:Nat} {A:Option Addr} {ws:List Nat} (o:Own w B A ws) (hb:b < B) (u0 u1 u2 u3:Value):Own ((((w.setCell ⟨b,0,none⟩ u0).setCell ⟨b,1,none⟩ u1).setCell ⟨b,2,none⟩ u2).setCell ⟨b,3,none⟩ u3) B A ws:=
 (((o.far (p:=⟨b,0,none⟩) (.inl hb) u0).far (p:=⟨b,1,none⟩) (.inl hb) u1).far (p:=⟨b,2,none⟩) (.inl hb) u2).far (p:=⟨b,3,none⟩) (.inl hb) u3
theorem CopX.all4 {w:World} {B b n c:Nat} {A:Option Addr} {vs:List Sv} (o:CopX w B A n c vs) (hb:b < B) (u0 u1 u2 u3:Value):CopX ((((w.setCell ⟨b,0,none⟩ u0).setCell ⟨b,1,none⟩ u1).setCell ⟨b,2,none⟩ u2).setCell ⟨b,3,none⟩ u3) B A n c vs:=
 (((o.far (p:=⟨b,0,none⟩) hb u0).far (p:=⟨b,1,none⟩) hb u1).far (p:=⟨b,2,none⟩) hb u2).far (p:=⟨b,3,none⟩) hb u3
theorem xgive_one {w:World} {h:Hp} {i:Nat} (hk:OkH h) (hi:i < h.l.length) (A:Option Addr) (cap:Nat) (hr:Row w w.heap.size A h.us) :
  Calls Tryz.prog 120 #[.agg #[.int .i64 h.n,.slice A h.us.length cap],.int .i64 (nth h.l i).f,.int .i64 (nth h.l i).p] w fun e w'=>Fresh w h.n (droH h i).us 0 e w':=by
 have ok:=hk.framed.spans.at_ hi
 have hpl:=ok.placed
 have hsz:=ok.sized.slots
 unfold Placed at hpl
 have h1:=(hk.owned.in_ i hi).2
 have hu:∀ j:Nat,(nth h.l i).f ≤ j → (j:Int) < (nth h.l i).f + (nth h.l i).p → tb h.us j=true:=fun j j1 j2=>(hk.owned.used j (by omega)).2 (.inr ⟨i,hi,j1,j2⟩)
 have hf:(nth h.l i).f=((nth h.l i).f.toNat:Int):=by omega
 have G:=rgive_in (w:=w) (n:=h.n) (A:=A) (ws:=h.us) (cap:=cap) (nth h.l i).f.toNat (nth h.l i).p hr hk.framed.pages (by omega) (by omega)
 rw [← hf] at G
 refine G.mono ?_
 rintro e w' (⟨_,hF⟩ | ⟨⟨j,j1,j2,j3⟩,_⟩)
 ·exact hF
 ·rw [hu j j1 j2] at j3
  cases j3
theorem xdrop_one {w:World} {h:Hp} {i:Nat} (hk:OkH h) (hi:i < h.l.length) (A:Option Addr) (cap:Nat) (hr:SRow w w.heap.size A h.l) :
  Calls Tryz.prog 121 #[.slice A h.l.length cap,.int .i64 (nth h.l i).f] w fun e w'=>DropC w (droH h i).l 0 e w':=
 xdropC_any cap hr hk.lens.1 _ _ 0 (.inr (.inr ⟨i,hk.framed.spans,idx_first hk.framed.spans hi,rfl,rfl⟩)) hk.framed.spans
section
variable {w:World} {v:Hv} {h:Hp}
set_option maxHeartbeats 16000000 in
theorem xclean_m (hm:HM w w.heap.size v h) (h2:h.l.length ≤ 17592186044416) (f:Int) (hk:OkH h) {i:Nat} (hI:IdxE h.l (fun d=>d.f == f) (i:Int)) (hs:(nth h.l i).s=false) :
  Calls Tryz.prog 41 #[hpV v h,.int .i64 f] w fun e w'=>GotHw w (clnH h i) (usD (nth h.l i)) (0) e w':=by
 have X0:=(HIn.new hm 31).alloc (.cells #[.slice none 0 0,.int .i64 0,.slice none 0 0,.slice none 0 0] 31)
 have R0:=B4.new (w.alloc (.cells #[.slice v.A h.ws.length v.ca,.int .i64 h.n,.slice v.U h.us.length v.cu,.slice v.V h.l.length v.cv] 31)) (.slice none 0 0) (.int .i64 0) (.slice none 0 0) (.slice none 0 0) 31
 rw [World.size_alloc] at R0
 unfold GotHw
 obtain ⟨i0,hi0,hz0,hz1,hz2⟩:=info_parts info_u64
 have HCH:=Lib.hid fun (w:World) m=>xcheckH_any (w:=w) (v:=v) (h:=h) m h2 0 (.inl ⟨hk,rfl⟩)
 have HCP:=Lib.hid fun (w:World) m=>hcopyO_any (w:=w) (v:=v) (h:=h) m hk
 have HLI:=Lib.hid (lastI_eq hk.framed.spans hI)
 have h256:=hk.framed.spans.1
 have hi:=hI.lt
 have HF:Hid ((nth h.l i).f=f):=Lib.hid (by
  rcases hI with ⟨e,_⟩ | ⟨i2,e,_,hb,_⟩
  ·omega
  ·obtain rfl:i=i2:=by omega
   simpa using hb)
 have HS:=Lib.hid hs
 have HK:=Lib.hid hk
 have HAL:=Lib.hid fun (w:World) (v:Hv) m=>xall_any (w:=w) (v:=v) (h:=h) m hk.framed hk.owned true (by simp [hk.heads])
 simp only [obsB] at HAL
 have HOB:=Lib.hid fun (o:Ob) (ho:o ∈ obsH h)=>heads_ob hk.framed hk.owned hk.heads ho
 have HAT:=Lib.hid fun (o:Ob) (ho:o ∈ obsH h)=>ob_at ho
 have hol:=obsH_len (h:=h) hk.framed.spans
 have hw16:=hk.framed.words
 have HALL:=Lib.hid (stK_all hk hi hs)
 have HGA:Hid (addrs (gonS (obsH h) i)=usD (nth h.l i)):=Lib.hid (gon_addrs hi hs)
 have HKI:Hid (∀ o ∈ gonS (obsH h) i,(o.k:Int) < (nth h.l i).an):=Lib.hid fun o ho=>by
  obtain ⟨k,h1,_,rfl⟩:=gon_at hi ho
  have:=(hk.framed.spans.at_ hi).slK
  have:=(hk.framed.spans.at_ hi).an
  show (k:Int) < _
  omega
 have hlw:0 < h.ws.length:=by have:=hk.framed.long;have:=hk.framed.some_;omega
 rw [← HGA.out]
 generalize obsH h=os at *
 clear hs
 clear hk hm hI
 unfold hpV hpv at HCH HCP HAL ⊢
 obtain ⟨vA,vca,vU,vcu,vV,vcv⟩:=v
 obtain ⟨x0,x1,x2,x3,fx0,fx1,fx2,fx3⟩:=id X0.box
 simp only at *
 go_enter Tryz.func41,Tryz.ntmps41
 go_wp2_with fail
 go_at_call 22
 refine (HCH.out _ (by exact X0.m)).mono ?_
 rintro e w1 ⟨rfl,hb_w1⟩
 have b1:Below w.heap.size w w1:=bX
 have X1:=X0.later hb_w1
 have R1:=R0.later hb_w1
 have hs1:=R1.lt
 clear x0 x1 x2 x3 fx0 fx1 fx2 fx3 X0 R0 hb_w1
 obtain ⟨x0,x1,x2,x3,fx0,fx1,fx2,fx3⟩:=id X1.box
 obtain ⟨z0,z1,z2,z3,fz0,fz1,fz2,fz3⟩:=id R1
 go_wp2_with fail
 go_at_call 14
 refine (HCP.out _ (by exact X1.m)).mono ?_
 rintro e w2 ⟨v2,rfl,c2,hb_w2⟩
 have b2:=b1.trans (hb_w2.mono b1.size)
 have BX:=X1.box.later hb_w2
 have R2:=R1.later hb_w2
 have hs2:=hb_w2.size
 have BX3:=BX.all (.slice v2.A h.ws.length v2.ca) (.int .i64 h.n) (.slice v2.U h.us.length v2.cu) (.slice v2.V h.l.length v2.cv)
 have R3:=R2.farA (b':=w.heap.size) (by omega) (.slice v2.A h.ws.length v2.ca) (.int .i64 h.n) (.slice v2.U h.us.length v2.cu) (.slice v2.V h.l.length v2.cv)
 have C3:=c2.farA (b:=w.heap.size) (by omega) (.slice v2.A h.ws.length v2.ca) (.int .i64 h.n) (.slice v2.U h.us.length v2.cu) (.slice v2.V h.l.length v2.cv)
 have b3:=below_all b2 (b:=w.heap.size) (Nat.le_refl _) (.slice v2.A h.ws.length v2.ca) (.int .i64 h.n) (.slice v2.U h.us.length v2.cu) (.slice v2.V h.l.length v2.cv)
 clear x0 x1 x2 x3 fx0 fx1 fx2 fx3 z0 z1 z2 z3 fz0 fz1 fz2 fz3 X1 R1 R2 c2 b1 b2 hb_w2
 obtain ⟨x0,x1,x2,x3,fx0,fx1,fx2,fx3⟩:=id BX
 obtain ⟨y0,y1,y2,y3,fy0,fy1,fy2,fy3⟩:=id BX3
 obtain ⟨z0,z1,z2,z3,fz0,fz1,fz2,fz3⟩:=id R3
 go_wp2_with fail
 generalize ((((w2.setCell ⟨w.heap.size,0,none⟩ (.slice v2.A h.ws.length v2.ca)).setCell ⟨w.heap.size,1,none⟩ (.int .i64 h.n)).setCell ⟨w.heap.size,2,none⟩ (.slice v2.U h.us.length v2.cu)).setCell ⟨w.heap.size,3,none⟩ (.slice v2.V h.l.length v2.cv))=W3 at *
 obtain ⟨v2A,v2ca,v2U,v2cu,v2V,v2cv⟩:=v2
 simp only at *
 have HX3:Hid (B4 W3 w.heap.size (.slice v2A h.ws.length v2ca) (.int .i64 h.n) (.slice v2U h.us.length v2cu) (.slice v2V h.l.length v2cv)):=Lib.hid BX3
 have HR3:=Lib.hid R3
 have HC3:=Lib.hid C3
 have HB3:=Lib.hid b3
 have HV3:=Lib.hid C3.hm.v
 have hl3:=R3.lt
 have hs3:=b3.size
 have b0:Below W3.heap.size W3 W3:=Below.refl _ _
 clear x0 x1 x2 x3 fx0 fx1 fx2 fx3 y0 y1 y2 y3 fy0 fy1 fy2 fy3 z0 z1 z2 z3 fz0 fz1 fz2 fz3 BX BX3 R3 C3 b3
 go_loopw [7,26] (fun av ii wr=>∃ k:Nat,ii=.int .i64 (k:Nat)∧k ≤ h.l.length∧av=.int .i64 (lastI h.l f k)∧Below W3.heap.size W3 wr) (fun _ ii _=>h.l.length - (intOf ii).toNat)
 case atStart=>exact ⟨0,rfl,Nat.zero_le _,rfl,b0⟩
 case round=>
  clear b0
  obtain ⟨k,rfl,hk,rfl,hb⟩:=hrel
  have hsr:=hb.size
  by_cases hlt:k < h.l.length
  ·obtain ⟨g,off,hAe,hg,hc⟩:=HV3.out.at_ (by omega)
   obtain ⟨Aa,ca,Am,cm,c8,_,_⟩:=hc k hlt
   have HSU:=Lib.hid (show lastI h.l f (k + 1)=if (nth h.l k).f=f then (k:Int) else lastI h.l f k from rfl)
   obtain ⟨d,hd⟩:∃ d,Hid (nth h.l k=d):=⟨_,Lib.hid rfl⟩
   rw [hd.out] at c8 HSU
   obtain ⟨s0,s1,s2,s3,s4,s5,s6,s7⟩:=id (c8.below hb hg)
   have i1:(k:Int) < (h.l.length:Int):=by omega
   have i2:(0:Int) ≤ (k:Int):=by omega
   have b9:=hb.trans ((Below.alloc (Below.refl _ _) (Nat.le_refl _) (.cells #[.int .i64 d.f,.int .i64 d.p,.int .i64 d.z,.int .i64 d.an,.slice Aa d.aw.length ca,.int .i64 d.mn,.slice Am d.mw.length cm,.bool d.s] 99):Below wr.heap.size wr (wr.alloc (.cells #[.int .i64 d.f,.int .i64 d.p,.int .i64 d.z,.int .i64 d.an,.slice Aa d.aw.length ca,.int .i64 d.mn,.slice Am d.mw.length cm,.bool d.s] 99))).mono hsr)
   obtain ⟨q,hq⟩:∃ q,Hid (lastI h.l f k=q):=⟨_,Lib.hid rfl⟩
   rw [hq.out] at HSU ⊢
   simp only at hAe
   subst hAe
   clear hc c8 hb
   by_cases hf:d.f=f
   ·have HL:=Lib.hid (HSU.out.trans (if_pos hf))
    have f1:(d.f == f)=true:=by simpa using hf
    clear HSU hf
    go_wp2
    go_roundw
    case rel=>first | exact ⟨k + 1,by go_num,by omega,by rw [HL.out],b9⟩ | exact ⟨_,_,.int .i64 (lastI h.l f (k + 1)),.int .i64 ((k + 1:Nat):Int),⟨k + 1,rfl,by omega,rfl,b9⟩,by rw [HL.out],by first | rfl | go_num,rfl⟩
    case measure=>simp [intOf];omega
   ·have HL:=Lib.hid (HSU.out.trans (if_neg hf))
    have f1:(d.f == f)=false:=by simpa using hf
    clear HSU hf
    go_wp2
    go_roundw
    case rel=>first | exact ⟨k + 1,by go_num,by omega,by rw [HL.out],b9⟩ | exact ⟨_,_,.int .i64 (lastI h.l f (k + 1)),.int .i64 ((k + 1:Nat):Int),⟨k + 1,rfl,by omega,rfl,b9⟩,by rw [HL.out],by first | rfl | go_num,rfl⟩
    case measure=>simp [intOf];omega
  ·obtain rfl:k=h.l.length:=by omega
   rw [HLI.out]
   have X4:=HX3.out.later hb
   have R4:=HR3.out.later hb
   have C4:=HC3.out.later hb
   have b4:=HB3.out.trans (hb.mono hs3)
   obtain ⟨g,A1,ca1,M1,cm1,hV,hgB,hgl,c8,oA1,_,_⟩:=C4.owns.span hi
   have HWD:=Lib.hid oA1.words
   clear oA1
   simp only at hV
   subst hV
   have s7:=c8.c7
   rw [HS.out] at s7
   have i1:(i:Int) < (h.l.length:Int):=by omega
   have i2:(0:Int) ≤ (i:Int):=by omega
   have i3:decide ((i:Int) < 0)=false:=decide_eq_false (by omega)
   have hl4:=R4.lt
   obtain ⟨x0,x1,x2,x3,fx0,fx1,fx2,fx3⟩:=id X4
   clear c8 hb HX3 HR3 HC3 HB3 HV3
   go_wp2_with fail
   go_at_call 96
   refine (HAL.out _ _ C4.hm).mono ?_
   rintro e w5 ⟨Ao,co,rfl,hown,hb_w5⟩
   have hAo:∀ q off,Ao=some ⟨q,off,none⟩ → wr.heap.size ≤ q:=fun q off e=>by have:=(hown.lt q (by rw [e];rfl)).1;omega
   have hXR:=XRow.of hown rfl
   have HM5:=Lib.hid ((C4.owns.later hb_w5).apaN)
   have X5:=X4.later hb_w5
   have R5:=R4.later hb_w5
   have b5:=b4.trans (hb_w5.mono b4.size)
   have hs5:=hb_w5.size
   clear x0 x1 x2 x3 fx0 fx1 fx2 fx3 X4 R4 C4 b4 hb_w5 s7 hown
   generalize wr.heap.size=sL at *
   go_wp2_with fail
   have m5:ApaH w5 w1.heap.size (Value.slice none 0 0).ownBlock ⟨v2A,v2ca,v2U,v2cu,some ⟨g,0,none⟩,v2cv⟩ (stK h i (gonS (os.take 0) i)):=by
    rw [show gonS (os.take 0) i=[] from rfl,stK_nil h hi]
    exact HM5.out
   go_loopw [10,54] (fun tv ii wr=>∃ (k m:Nat) (Al:Option Addr) (cl:Nat) (A':Option Addr) (ca':Nat),ii=.int .i64 (k:Nat)∧k ≤ os.length∧tv=.slice Al m cl∧m ≤ k∧OwnsN wr w5.heap.size Al m cl (addrs (gonS (os.take k) i))∧ApaH wr w1.heap.size (Value.slice Al m cl).ownBlock ⟨A',ca',v2U,v2cu,some ⟨g,0,none⟩,v2cv⟩ (stK h i (gonS (os.take k) i))∧XRow wr w5.heap.size Ao os∧B4 wr w.heap.size (.slice A' h.ws.length ca') (.int .i64 h.n) (.slice v2U h.us.length v2cu) (.slice (some ⟨g,0,none⟩) h.l.length v2cv)∧B4 wr (w.heap.size + 1) (.slice none 0 0) (.int .i64 0) (.slice none 0 0) (.slice none 0 0)∧w5.heap.size ≤ wr.heap.size∧Below w.heap.size w wr) (fun _ ii _=>os.length - (intOf ii).toNat)
   case atStart=>exact ⟨0,0,none,0,v2A,v2ca,rfl,Nat.zero_le _,rfl,Nat.le_refl _,OwnsN.nil _ _,m5,hXR,X5,R5,Nat.le_refl _,b5⟩
   case round=>
    clear m5 hXR X5 R5 b5 HM5
    obtain ⟨k,m,Al,cl,A',ca',rfl,hk,rfl,hmk,hO,hW,hX,X,R,hsz,hb⟩:=hrel
    have hsr:=hb.size
    have hRl:=R.lt
    by_cases hlt:k < os.length
    ·obtain ⟨go,oo,hoe,hg,hc⟩:=hX.at_ (by omega)
     have xp:=hc k hlt
     have hmem:os[k] ∈ os:=List.getElem_mem hlt
     have hTK:Hid (gonS (os.take (k + 1)) i=gonS (os.take k) i ++ gonS [os[k]] i):=Lib.hid (by rw [List.take_succ_eq_append_getElem hlt,gonS_app])
     have hin:∀ o ∈ gonS (os.take k) i,o ∈ gonS os i:=fun o ho=>by
      obtain ⟨h1,h2⟩:=gonS_mem.1 ho
      exact gonS_mem.2 ⟨List.mem_of_mem_take h1,h2⟩
     have HIN:=Lib.hid hin
     clear hin
     obtain ⟨o,ho⟩:∃ o,Hid (os[k]=o):=⟨_,Lib.hid rfl⟩
     rw [ho.out] at xp hTK hmem
     rw [gonS_one] at hTK
     obtain ⟨p0,p1,p2,p3,p4,p5⟩:=id xp
     have j1:(k:Int) < (os.length:Int):=by omega
     have j2:(0:Int) ≤ (k:Int):=by omega
     have aS:Below wr.heap.size wr (wr.alloc (.cells #[.int .i64 o.i,.int .i64 o.k,.int .u64 o.a,.int .i64 o.n,.int .u64 o.m,.bool o.c] 156)):=Below.alloc (Below.refl _ _) (Nat.le_refl _) _
     have hgA:∀ q off,Ao=some ⟨q,off,none⟩ → g ≠ q:=fun q off e=>by have:=hAo q off e;omega
     have HgA:=Lib.hid hgA
     have HAo:=Lib.hid hAo
     have HX:=Lib.hid hX
     subst hoe
     clear hc xp ho hgA hAo
     obtain hcc | ⟨hcc,hci,hcx⟩:(o.i == i && !o.c)=false ∨ ((o.i == i && !o.c)=true∧o.i=i∧o.c=false):=by
      rcases hq:(o.i == i && !o.c) with _ | _
      ·exact .inl rfl
      ·simp only [Bool.and_eq_true,beq_iff_eq,Bool.not_eq_true'] at hq
       exact .inr ⟨rfl,hq⟩
     ·rw [hcc] at hTK
      simp only [Bool.false_eq_true,if_false,List.append_nil] at hTK
      have HO2:=Lib.hid (hO.later aS)
      have HW2:=Lib.hid (hW.later aS)
      have HX2:=Lib.hid (HX.out.below (aS.mono hsz))
      have X2:=X.later aS
      have R2:=R.later aS
      have HB2:=Lib.hid (hb.trans (aS.mono hsr))
      have hsz2:=aS.size
      obtain ⟨x0,x1,x2,x3,_,_,_,_⟩:=id X
      clear hO hW aS hb HX hmem
      by_cases hoi:o.i=i
      ·have f1:((o.i:Int) != (i:Int))=false:=by simp [hoi]
       obtain hoc:o.c=true:=by rw [hoi] at hcc;simpa using hcc
       rw [hoc] at p5 X2 R2 HB2 HO2 HW2 HX2 hsz2
       clear hoi
       clear hcc
       go_wp2
       go_roundw
       case rel=>first | exact ⟨k + 1,m,Al,cl,A',ca',by go_num,by omega,rfl,by omega,by rw [hTK.out];exact HO2.out,by rw [hTK.out];exact HW2.out,HX2.out,X2,R2,by omega,HB2.out⟩ | exact ⟨_,_,.slice Al m cl,.int .i64 ((k + 1:Nat):Int),⟨k + 1,m,Al,cl,A',ca',rfl,by omega,rfl,by omega,by rw [hTK.out];exact HO2.out,by rw [hTK.out];exact HW2.out,HX2.out,X2,R2,by omega,HB2.out⟩,rfl,by first | rfl | go_num | simp,rfl⟩
       case measure=>simp [intOf];omega
      ·have f1:((o.i:Int) != (i:Int))=true:=by simp;omega
       clear hoi
       clear hcc
       go_wp2
       go_roundw
       case rel=>first | exact ⟨k + 1,m,Al,cl,A',ca',by go_num,by omega,rfl,by omega,by rw [hTK.out];exact HO2.out,by rw [hTK.out];exact HW2.out,HX2.out,X2,R2,by omega,HB2.out⟩ | exact ⟨_,_,.slice Al m cl,.int .i64 ((k + 1:Nat):Int),⟨k + 1,m,Al,cl,A',ca',rfl,by omega,rfl,by omega,by rw [hTK.out];exact HO2.out,by rw [hTK.out];exact HW2.out,HX2.out,X2,R2,by omega,HB2.out⟩,rfl,by first | rfl | go_num | simp,rfl⟩
       case measure=>simp [intOf];omega
     ·rw [hcc] at hTK
      simp only [if_true] at hTK
      have f1:((o.i:Int) != (i:Int))=false:=by simp [hci]
      obtain ⟨oa1,oa2,on1,on2,om⟩:=HOB.out _ hmem
      obtain ⟨jo,ko,hjo,hko,ei,ek,eb⟩:=HAT.out _ hmem
      have hog:o ∈ gonS os i:=gonS_mem.2 ⟨hmem,hci,hcx⟩
      have hfil:Hid (∀ x ∈ addrs (gonS (os.take k) i ++ [o]),x < W64):=Lib.hid fun x hx=>by
       unfold addrs at hx
       obtain ⟨q,hq,rfl⟩:=List.mem_map.1 hx
       have hq2:q ∈ gonS os i:=by
        rcases List.mem_append.1 hq with hq | hq
        ·exact HIN.out _ hq
        ·rw [List.mem_singleton] at hq;rw [hq];exact hog
       have:=(HOB.out q (gonS_mem.1 hq2).1)
       unfold W64
       omega
      have HOK:=Lib.hid (HKI.out o hog)
      clear ei ek eb hjo hko hcc hci
      rw [hcx] at p5 aS
      have HO:=Lib.hid hO
      have HB:=Lib.hid hb
      have HW:=Lib.hid hW
      have HROW:=Lib.hid fun W' hb=>(owns_laterN hO.row_ hb:World.ownsRow W' w5.heap.size 32 1 (.slice Al m cl) m (vals (addrs (gonS (os.take k) i))))
      have HLW:Hid (∀ q,(Value.slice Al m cl).ownBlock=some q → w5.heap.size ≤ q):=Lib.hid fun q hq=>(hO.row_.lt q hq).1
      have HLN:Hid ((addrs (gonS (os.take k) i)).length=m):=Lib.hid hO.len
      obtain ⟨x0,x1,x2,x3,_,_,_,_⟩:=id X
      clear hO hb hW hmem hog
      have HAP:Hid (∀ (ob:Obj) (g9:Nat) (w9:World),((wr.alloc (.cells #[.int .i64 o.i,.int .i64 o.k,.int .u64 o.a,.int .i64 o.n,.int .u64 o.m,.bool false] 156)).alloc ob).grownBy w9 (Value.slice Al m cl).ownBlock → ((Value.slice Al m cl).ownBlock=some g9 ∨ g9=((wr.alloc (.cells #[.int .i64 o.i,.int .i64 o.k,.int .u64 o.a,.int .i64 o.n,.int .u64 o.m,.bool false] 156)).alloc ob).heap.size) → ApaH w9 w1.heap.size (some g9) ⟨A',ca',v2U,v2cu,some ⟨g,0,none⟩,v2cv⟩ (stK h i (gonS (os.take k) i))):=Lib.hid fun ob g9 w9 h1 h2=>((HW.out.later aS).later (Below.alloc (Below.refl _ _) (Nat.le_refl _) ob)).grown h1 (h2.imp id fun e=>by rw [e];exact Nat.le_refl _)
      have HBL:Hid (∀ (ob:Obj) (w9:World),((wr.alloc (.cells #[.int .i64 o.i,.int .i64 o.k,.int .u64 o.a,.int .i64 o.n,.int .u64 o.m,.bool false] 156)).alloc ob).grownBy w9 (Value.slice Al m cl).ownBlock → Below w5.heap.size wr w9):=Lib.hid fun ob w9 h1=>Below.grown (w:=(wr.alloc (.cells #[.int .i64 o.i,.int .i64 o.k,.int .u64 o.a,.int .i64 o.n,.int .u64 o.m,.bool false] 156)).alloc ob) (((Below.refl _ _).alloc hsz _).alloc (by rw [World.size_alloc];omega) _) h1 (by simp only [zA];omega) (fun q hq=>HLW.out q (by first | exact hq | exact hq.symm))
      have HSX:Hid (∀ (ob:Obj) (w9:World),((wr.alloc (.cells #[.int .i64 o.i,.int .i64 o.k,.int .u64 o.a,.int .i64 o.n,.int .u64 o.m,.bool false] 156)).alloc ob).grownBy w9 (Value.slice Al m cl).ownBlock → Six w9 wr.heap.size (.int .i64 o.i) (.int .i64 o.k) (.int .u64 o.a) (.int .i64 o.n) (.int .u64 o.m) (.bool false)):=Lib.hid fun ob w9 h1=>by
       have hZ:=(Six.new wr (.int .i64 o.i) (.int .i64 o.k) (.int .u64 o.a) (.int .i64 o.n) (.int .u64 o.m) (.bool false) 156).later (Below.alloc (Below.refl _ _) (Nat.le_refl _) ob)
       have hbk:=h1.block wr.heap.size (by simp only [zA];omega) (by intro e;have:=(HO.out.row_.lt _ e.symm).2;omega)
       exact ⟨(World.cell?_of_block hbk).trans hZ.c0,(World.cell?_of_block hbk).trans hZ.c1,(World.cell?_of_block hbk).trans hZ.c2,(World.cell?_of_block hbk).trans hZ.c3,(World.cell?_of_block hbk).trans hZ.c4,(World.cell?_of_block hbk).trans hZ.c5,fun j=>(World.frozen?_of_block (a:=⟨wr.heap.size,j,none⟩) hbk).trans (hZ.f j)⟩
      obtain ⟨n,hn⟩:∃ n:Nat,o.n=(n:Int):=⟨o.n.toNat,by omega⟩
      have HNT:Hid (o.n.toNat + 1=n + 1):=Lib.hid (by omega)
      have hn48:n ≤ 48:=by omega
      have hin:o.a + (n + 1) ≤ h.ws.length:=by omega
      obtain ⟨qn,hq⟩:∃ qn,n + 1=qn:=⟨_,rfl⟩
      have w1':IntKind.u64.wrap o.n=((n:Nat):Int):=by rw [IntKind.wrap_u64];omega
      have w2':IntKind.u64.wrap (((n:Nat):Int) + 1)=((qn:Nat):Int):=by rw [IntKind.wrap_u64];omega
      rw [hq] at hin HNT
      have HCL:=Lib.hid fun (w:World) (A:Option Addr) (ca:Nat) hr=>raclear_in (w:=w) (A:=A) (ws:=(stK h i (gonS (os.take k) i)).ws) ca o.a qn (by unfold W64;omega) (by unfold W64;omega) hr (by rw [stK_ws];omega) (by rw [stK_ws];omega) (by rw [stK_ws];omega)
      unfold FreshA at HCL
      simp only [length_overTo,stK_ws] at HCL
      clear hn hq on1 on2 oa1 oa2 om aS x0 x1 x2 x3
      obtain ⟨x0,x1,x2,x3,_,_,_,_⟩:=id X
      go_wp2_with (at_builtin;refine wpList_append_lies _ ?_ (.tmp 66) (.tmp 69) 22 ?_ w5.heap.size 32 i0 _ 1 8 Tryz.underlying22 hi0 hz0 hz1 hz2 rfl (by omega) (.slice Al m cl) m (vals (addrs (gonS (os.take k) i))) ?_ (HROW.out _ bX) ⟨wr.heap.size + 1,0,none⟩ 1 1 (vals [o.a]) ?_ rfl ?_ (vals_one _) (by omega) (by unfold maxLen;omega) (by omega) (by simp only [zA];omega) _ rfl ?_;rfl;rfl;rfl;rfl;(intro j u hj;rw [add_form];have hj0:j=0:=(by have:=(List.getElem?_eq_some_iff.1 hj).1;simpa [vals] using this);subst hj0;have hu:u=.int .u64 (o.a:Nat):=(by simpa [vals] using hj.symm);subst hu;simp [go_sem]);intro g9 cap9 w9 hown9 hg9 hat9 hlt9;have hb9:=HBL.out _ _ hg9;have hW9:=HAP.out _ _ _ hg9 hat9;have Z9:=HSX.out _ _ hg9;have X9:=X.below hb9 (by omega);have R9:=R.below hb9 (by omega);have hX9:=HX.out.below hb9;have hs9:=hb9.size;clear HBL HAP HSX hg9 hat9 X R x0 x1 x2 x3;obtain ⟨x0,x1,x2,x3,fx0,fx1,fx2,fx3⟩:=id X9;obtain ⟨y0,y1,y2,y3,y4,y5,_⟩:=id Z9)
      go_at_call 118
      refine (HCL.out _ _ _ hW9.a.row).mono ?_
      rintro e w10 ⟨A2,ca2,rfl,⟨hA2,_⟩,hb_w10⟩
      have hs10:=hb_w10.size
      have hS5:sL ≤ w5.heap.size:=hs5
      have m10:=(hW9.later hb_w10).setA (ca':=ca2) (hA2.mono (by omega)) (fun q hq=>by injection hq with hq;subst hq;exact hA2.apt hlt9)
      have hO10:=(OwnsN.mk (by have:=HLN.out;unfold addrs at this ⊢;rw [List.map_append,List.length_append,this];rfl) hfil.out (by have e:vals (addrs (gonS (os.take k) i ++ [o]))=vals (addrs (gonS (os.take k) i)) ++ vals [o.a]:=(by simp [vals,addrs]);rw [e];exact hown9):OwnsN w9 w5.heap.size (some ⟨g9,0,none⟩) (m + 1) cap9 (addrs (gonS (os.take k) i ++ [o]))).later hb_w10
      have X10:=X9.later hb_w10
      have R10:=R9.later hb_w10
      have Z10:=Z9.later hb_w10
      have hX10:=hX9.below (hb_w10.mono (by omega))
      have b10:=(HB.out.trans (hb9.mono (by omega))).trans (hb_w10.mono (by omega))
      clear x0 x1 x2 x3 fx0 fx1 fx2 fx3 y0 y1 y2 y3 y4 y5 hW9 X9 R9 Z9 hX9 hb_w10 hb9 hA2 hown9
      obtain ⟨x0,x1,x2,x3,fx0,fx1,fx2,fx3⟩:=id X10
      have m11:=m10.far (p:=⟨w.heap.size,0,none⟩) (by show w.heap.size < w1.heap.size;omega) (.slice A2 h.ws.length ca2)
      have X11:=X10.set0 (.slice A2 h.ws.length ca2)
      have R11:=R10.far (p:=⟨w.heap.size,0,none⟩) (by show w.heap.size ≠ w.heap.size + 1;omega) (.slice A2 h.ws.length ca2)
      have Z11:=Z10.far (p:=⟨w.heap.size,0,none⟩) (by show w.heap.size ≠ wr.heap.size;omega) (.slice A2 h.ws.length ca2)
      have hX11:=hX10.farN (p:=⟨w.heap.size,0,none⟩) (fun q off e=>by have:=HAo.out q off e;show q ≠ w.heap.size;omega) (.slice A2 h.ws.length ca2)
      have hO11:=hO10.far2 (p:=⟨w.heap.size,0,none⟩) (by show w.heap.size < w5.heap.size;omega) (.slice A2 h.ws.length ca2)
      have b11:=b10.setCell (p:=⟨w.heap.size,0,none⟩) (Nat.le_refl _) (.slice A2 h.ws.length ca2)
      have hsW:(w10.setCell ⟨w.heap.size,0,none⟩ (.slice A2 h.ws.length ca2)).heap.size=w10.heap.size:=World.size_setCell _ _ _
      clear m10 X10 R10 Z10 hX10 hO10 b10
      go_wp2_with fail
      generalize w10.setCell ⟨w.heap.size,0,none⟩ (.slice A2 h.ws.length ca2)=W at *
      clear x0 x1 x2 x3 fx0 fx1 fx2 fx3
      obtain ⟨g',Aw,caw,Mw,cmw,hV,_,hgl',c8,oAw,_,fz⟩:=m11.span (i:=i) (by show i < (stK h i (gonS (os.take k) i)).l.length;rw [stK_len];exact hi)
      simp only at hV
      have eg:g=g':=(by injection hV with e;injection e with e)
      subst eg
      have e8:=stK_at h hi (gonS (os.take k) i)
      simp only at c8 oAw
      rw [e8] at c8 oAw
      unfold delD at c8 oAw
      simp only at oAw
      have c3:=c8.c3
      have c4:=c8.c4
      simp only [delO_len] at c3 c4
      have g3:=fz (i * 8 + 3)
      have g4:=fz (i * 8 + 4)
      have hrow:=oAw.row
      have ok:=HK.out.framed.spans.at_ hi
      have haw1:=ok.aw
      have HPU:=Lib.hid fun (w:World) (Aw:Option Addr) (caw:Nat) hr=>rput_in (A:=Aw) (ws:=delO (nth h.l i).aw (gonS (os.take k) i)) (w:=w) (N:=(nth h.l i).an) (cap:=caw) (v:=false) (o.k:Int) hr (right_delO ok.a _ (fun x hx=>HKI.out x (HIN.out x hx))) (by omega) HOK.out
      unfold Fresh at HPU
      simp only [Int.toNat_natCast,length_putW,delO_len] at HPU
      obtain ⟨dan,hdan⟩:∃ x,Hid ((nth h.l i).an=x):=⟨_,Lib.hid rfl⟩
      obtain ⟨DA,hDA⟩:∃ x,Hid (delO (nth h.l i).aw (gonS (os.take k) i)=x):=⟨_,Lib.hid rfl⟩
      rw [hDA.out] at HPU hrow
      rw [hdan.out,haw1] at HPU
      rw [hdan.out] at c3
      rw [haw1] at c4
      have x3:=X11.c3
      have y1:=Z11.c1
      have HM11:=Lib.hid m11
      have HX11:=Lib.hid X11
      have HR11:=Lib.hid R11
      have HZ11:=Lib.hid Z11
      have HO11:=Lib.hid hO11
      have HXR11:=Lib.hid hX11
      have HB11:=Lib.hid b11
      have hlW:=R11.lt
      have hzW:=Z11.lt
      clear c8 oAw fz ok e8 hV m11 X11 R11 Z11 hO11 hX11 b11
      refine wp_region_held_drew (S:=(fun X:World=>X.cell? ⟨w.heap.size,3,none⟩=some (.slice (some ⟨g,0,none⟩) h.l.length v2cv)∧X.cell? ⟨wr.heap.size,1,none⟩=some (.int .i64 (o.k:Nat)))) (by kernel_rfl) ?_ (fun hHeld=>?_)
      ·exact kS
      refine tY 0 ?_
      try simp only [Act.put,qZ]
      refine tY 1 ?_
      try simp only [Act.put,qZ]
      refine tY 2 ?_
      try simp only [Act.put,qZ]
      refine tY 3 ?_
      try simp only [Act.put,qZ]
      refine tY 4 ?_
      try simp only [Act.put,qZ]
      refine tY 5 ?_
      try simp only [Act.put,qZ]
      refine tY 6 ?_
      try simp only [Act.put,qZ]
      refine tY 7 ?_
      try simp only [Act.put,qZ]
      refine tY 9 ?_
      try simp only [Act.put,qZ]
      refine tY 10 ?_
      try simp only [Act.put,qZ]
      refine tR 8 fun K hK=>?_
      try simp only [qZ]
      go_simp
      refine hK.out _ _ ?_ (fun hHeld=>?_)
      ·exact kS
      clear hK K
      try simp only [Act.put,qZ]
      refine tR 11 fun K hK=>?_
      try simp only [qZ]
      go_simp
      go_at_call 108
      refine (HPU.out _ _ _ (hrow.later bX)).mono ?_
      rintro e w11 ⟨A3,ca3,rfl,o3,hb_w11⟩
      have k11:Below W.heap.size W w11:=bX
      have hs11:=k11.size
      have mw110:w11.cell? ⟨w.heap.size,3,none⟩=some (.slice (some ⟨g,0,none⟩) h.l.length v2cv):=cX hb_w11
      have mw111:w11.cell? ⟨wr.heap.size,1,none⟩=some (.int .i64 (o.k:Nat)):=cX hb_w11
      have p3:w11.cell? ⟨g,i * 8 + 3,none⟩=some (.int .i64 dan):=(k11.cell (p:=⟨g,i * 8 + 3,none⟩) hgl').trans (by assumption)
      have p4:w11.cell? ⟨g,i * 8 + 4,none⟩=some (.slice Aw 1 caw):=(k11.cell (p:=⟨g,i * 8 + 4,none⟩) hgl').trans (by assumption)
      have q3:=((bcell k11).2 _ _ hgl').trans g3
      have q4:=((bcell k11).2 _ _ hgl').trans g4
      try go_wp2_with fail
      refine hK.out _ _ ?_ (fun hHeld=>?_)
      ·exact kS
      clear hK K
      try simp only [Act.put,qZ]
      have m12:=HM11.out.later k11
      have X12:=HX11.out.later k11
      have R12:=HR11.out.later k11
      have Z12:=HZ11.out.later k11
      have hO12:=HO11.out.later k11
      have hX12:=HXR11.out.below (k11.mono (by omega))
      have b12:=HB11.out.trans (k11.mono (by omega))
      have o3':Own w11 W.heap.size A3 (putW (delO (nth h.l i).aw (gonS (os.take k) i)) o.k false):=by
       rw [hDA.out]
       exact o3.mono (by first | omega | (simp only [zD];omega))
      refine tY 12 ?_
      try simp only [Act.put,qZ]
      refine tY 13 ?_
      try simp only [Act.put,qZ]
      refine tY 14 ?_
      try simp only [Act.put,qZ]
      refine tY 15 ?_
      try simp only [Act.put,qZ]
      refine tY 16 ?_
      try simp only [Act.put,qZ]
      refine tR 17 fun K hK=>?_
      try simp only [qZ]
      go_simp
      have m13:=m12.setL_ (g:=g) rfl (i:=i) (ca':=ca3) (aw':=(putW (delO (nth h.l i).aw (gonS (os.take k) i)) o.k false)) (by show i < (stK h i (gonS (os.take k) i)).l.length;rw [stK_len];exact hi) (o3'.mono (by omega)) (o3'.apt hgl') (fun q hq=>by injection hq with hq;subst hq;exact o3'.apt (by omega)) (by rw [length_putW,delO_len,haw1];omega)
      have e8:=stK_at h hi (gonS (os.take k) i)
      simp only at m13
      rw [e8] at m13
      unfold delD at m13
      simp only [length_putW,delO_len] at m13
      have e9:=stK_snoc h hi (gonS (os.take k) i) o
      rw [HNT.out] at e9
      rw [show (stK h i (gonS (os.take k) i)).n=h.n from rfl,show (stK h i (gonS (os.take k) i)).us=h.us from rfl] at m13
      rw [← e9] at m13
      rw [hdan.out,haw1] at m13
      have R13:=(R12.far (p:=⟨g,i * 8 + 3,none⟩) (by show g ≠ w.heap.size + 1;omega) (.int .i64 dan)).far (p:=⟨g,i * 8 + 4,none⟩) (by show g ≠ w.heap.size + 1;omega) (.slice A3 1 ca3)
      have X13:=(X12.far (p:=⟨g,i * 8 + 3,none⟩) (by show g ≠ w.heap.size;omega) (.int .i64 dan)).far (p:=⟨g,i * 8 + 4,none⟩) (by show g ≠ w.heap.size;omega) (.slice A3 1 ca3)
      have Z13:=(Z12.far (p:=⟨g,i * 8 + 3,none⟩) (by show g ≠ wr.heap.size;omega) (.int .i64 dan)).far (p:=⟨g,i * 8 + 4,none⟩) (by show g ≠ wr.heap.size;omega) (.slice A3 1 ca3)
      have hX13:=(hX12.farN (p:=⟨g,i * 8 + 3,none⟩) (by exact fun q off e=>(HgA.out q off e).symm) (.int .i64 dan)).farN (p:=⟨g,i * 8 + 4,none⟩) (by exact fun q off e=>(HgA.out q off e).symm) (.slice A3 1 ca3)
      have hO13:=(hO12.far2 (p:=⟨g,i * 8 + 3,none⟩) (by show g < w5.heap.size;omega) (.int .i64 dan)).far2 (p:=⟨g,i * 8 + 4,none⟩) (by show g < w5.heap.size;omega) (.slice A3 1 ca3)
      have b13:=(b12.setCell (p:=⟨g,i * 8 + 3,none⟩) (by show w.heap.size ≤ g;omega) (.int .i64 dan)).setCell (p:=⟨g,i * 8 + 4,none⟩) (by show w.heap.size ≤ g;omega) (.slice A3 1 ca3)
      have u3:=X13.c3
      have s1:=Z13.c1
      refine hK.out _ _ ?_ (fun hHeld=>?_)
      ·(try dsimp only);refine ⟨?_,?_⟩ <;> assumption
      clear hK K
      try simp only [Act.put,qZ]
      refine wpAnyH_done (by kernel_rfl) ?_ _
      have M13:=Lib.hid m13
      have HX13:=Lib.hid X13
      have HR13:=Lib.hid R13
      have HO13:=Lib.hid hO13
      have HXR13:=Lib.hid hX13
      have HB13:=Lib.hid b13
      have hsz13:=hX12
      have hsF:w5.heap.size ≤ w11.heap.size:=by omega
      clear m12 X12 R12 Z12 hO12 hX12 b12 o3 o3' m13 R13 X13 Z13 hX13 hO13 b13 hb_w11 p3 p4 q3 q4 u3 s1 e8 e9 hsz13
      go_wp2
      go_roundw
      case rel=>first | exact ⟨k + 1,m + 1,_,_,A2,ca2,by go_num,by omega,rfl,by omega,by rw [hTK.out];exact HO13.out,by rw [hTK.out];exact M13.out,HXR13.out,HX13.out,HR13.out,by simp only [zS];omega,HB13.out⟩ | exact ⟨_,_,.slice (some ⟨g9,0,none⟩) (m + 1) cap9,.int .i64 ((k + 1:Nat):Int),⟨k + 1,m + 1,_,_,A2,ca2,rfl,by omega,rfl,by omega,by rw [hTK.out];exact HO13.out,by rw [hTK.out];exact M13.out,HXR13.out,HX13.out,HR13.out,by simp only [zS];omega,HB13.out⟩,rfl,by first | rfl | go_num | simp,rfl⟩
      case measure=>simp [intOf];omega
    ·obtain rfl:k=os.length:=by omega
     rw [List.take_length] at hO hW
     have oW:=hW.owns
     obtain ⟨g',Aw,caw,Mw,cmw,hV,hgB2,hgl2,c8,_,_,fz⟩:=oW.span (i:=i) (by show i < (stK h i (gonS os i)).l.length;rw [stK_len];exact hi)
     simp only at hV
     have eg:g=g':=(by injection hV with e;injection e with e)
     subst eg
     have W8:=oW.set8 (g:=g) rfl (i:=i) (j:=7) (u:=.bool true) (by show i < (stK h i (gonS os i)).l.length;rw [stK_len];exact hi) (by omega) ⟨(nth (stK h i (gonS os i)).l i).f,(nth (stK h i (gonS os i)).l i).p,(nth (stK h i (gonS os i)).l i).z,(nth (stK h i (gonS os i)).l i).an,(nth (stK h i (gonS os i)).l i).aw,(nth (stK h i (gonS os i)).l i).mn,(nth (stK h i (gonS os i)).l i).mw,true⟩ rfl rfl (fun A ca M cm=>rfl)
     rw [stK_at h hi (gonS os i)] at W8 c8
     unfold delD at W8 c8
     try simp only at W8 c8
     rw [HALL.out HWD.out] at W8
     have s7:=c8.c7
     have f7:=fz (i * 8 + 7)
     clear c8 fz hV
     obtain ⟨x0,x1,x2,x3,fx0,fx1,fx2,fx3⟩:=id X
     have X1:=X.far (p:=⟨g,i * 8 + 7,none⟩) (by show g ≠ w.heap.size;omega) (.bool true)
     have R1:=R.far (p:=⟨g,i * 8 + 7,none⟩) (by show g ≠ w.heap.size + 1;omega) (.bool true)
     have hO1:=hO.far2 (p:=⟨g,i * 8 + 7,none⟩) (by show g < w5.heap.size;omega) (.bool true)
     have b1:=hb.setCell (p:=⟨g,i * 8 + 7,none⟩) (by show w.heap.size ≤ g;omega) (.bool true)
     have hsW:(wr.setCell ⟨g,i * 8 + 7,none⟩ (.bool true)).heap.size=wr.heap.size:=World.size_setCell _ _ _
     obtain ⟨g',Aw,caw,Mw,cmw,hV,_,hgl3,c8,oAw,_,fz⟩:=W8.span (i:=i) (by simpa [cl1H] using hi)
     simp only at hV
     have eg:g=g':=(by injection hV with e;injection e with e)
     subst eg
     clear hV
     have hk1:=cl1H_ok HK.out hi HS.out
     have ok1:=hk1.framed.spans.at_ (show i < (cl1H h i).l.length by simpa [cl1H] using hi)
     rw [cl1H_nth hi,if_pos rfl] at c8 oAw ok1
     have HK1:=Lib.hid hk1
     have HPA:=Lib.hid (show (clnD (nth h.l i)).an=(nth h.l i).an∧(clnD (nth h.l i)).p=(nth h.l i).p∧(clnD (nth h.l i)).f=(nth h.l i).f from ⟨rfl,rfl,rfl⟩)
     have ra:=ok1.a
     have HCO:=Lib.hid fun (w:World) (A:Option Addr) (cap:Nat) hr=>rcount_ok (w:=w) (n:=(clnD (nth h.l i)).an) (A:=A) (ws:=(clnD (nth h.l i)).aw) (cap:=cap) hr ra
     clear ok1 ra hk1
     obtain ⟨D,hD⟩:∃ x,Hid (clnD (nth h.l i)=x):=⟨_,Lib.hid rfl⟩
     rw [hD.out] at c8 oAw HPA HCO
     obtain ⟨df,dp,dz,dan,daw,dmn,dmw,ds⟩:=D
     simp only at c8 oAw HPA HCO
     obtain ⟨cn,hcn⟩:∃ x,Hid (countTo daw dan.toNat=x):=⟨_,Lib.hid rfl⟩
     rw [hcn.out] at HCO
     have c1:wr.cell? ⟨g,i * 8 + 1,none⟩=some (.int .i64 dp):=by
      have q:=c8.c1
      rw [cO _ _ _ _ (show (⟨g,i * 8 + 7,none⟩:Addr) ≠ ⟨g,i * 8 + 1,none⟩ by simp)] at q
      exact q
     have c3:wr.cell? ⟨g,i * 8 + 3,none⟩=some (.int .i64 dan):=by
      have q:=c8.c3
      rw [cO _ _ _ _ (show (⟨g,i * 8 + 7,none⟩:Addr) ≠ ⟨g,i * 8 + 3,none⟩ by simp)] at q
      exact q
     have c4:wr.cell? ⟨g,i * 8 + 4,none⟩=some (.slice Aw daw.length caw):=by
      have q:=c8.c4
      rw [cO _ _ _ _ (show (⟨g,i * 8 + 7,none⟩:Addr) ≠ ⟨g,i * 8 + 4,none⟩ by simp)] at q
      exact q
     have hrow:=oAw.row
     have c1W:=c8.c1
     clear c8 oAw fz hX hO X R hb hW oW
     go_wp2_with fail
     generalize wr.setCell ⟨g,i * 8 + 7,none⟩ (.bool true)=W at *
     clear x0 x1 x2 x3 fx0 fx1 fx2 fx3 s7 f7 c1 c3 c4
     go_at_call 119
     refine (HCO.out _ _ _ hrow).mono ?_
     rintro e w10 ⟨rfl,hb_w10⟩
     have X2:=X1.later hb_w10
     have R2:=R1.later hb_w10
     have W9:=W8.later hb_w10
     have hO2:=hO1.later hb_w10
     have b2:=b1.trans (hb_w10.mono (by omega))
     have c1X:=(hb_w10.cell (p:=⟨g,i * 8 + 1,none⟩) (by show g < W.heap.size;omega)).trans c1W
     have hs10:=hb_w10.size
     have l1:(cl1H h i).ws.length=h.ws.length:=clnW_len _ _ _ _
     have l2:(cl1H h i).l.length=h.l.length:=by simp [cl1H]
     have hln:=hO2.len
     clear X1 R1 W8 hO1 b1 hb_w10 c1W hrow
     obtain ⟨x0,x1,x2,x3,fx0,fx1,fx2,fx3⟩:=id X2
     by_cases hz:cn=0
     ·subst hz
      have hi1:i < (cl1H h i).l.length:=by rw [l2];exact hi
      have hf1:(nth (cl1H h i).l i).f=f:=by rw [cl1H_nth hi,if_pos rfl];exact HF.out
      have hp1:(nth (cl1H h i).l i).p=dp:=by rw [cl1H_nth hi,if_pos rfl,hD.out]
      have HG:=Lib.hid fun (w:World) (A:Option Addr) (cap:Nat) hr=>xgive_one (w:=w) (h:=cl1H h i) (i:=i) HK1.out hi1 A cap hr
      have HDR:=Lib.hid fun (w:World) (A:Option Addr) (cap:Nat) hr=>xdrop_one (w:=w) (h:=cl1H h i) (i:=i) HK1.out hi1 A cap hr
      rw [hf1,hp1] at HG
      rw [hf1,l2] at HDR
      simp only [show (cl1H h i).us=h.us from rfl,show (cl1H h i).n=h.n from rfl] at HG
      unfold Fresh at HG
      unfold DropC at HDR
      obtain ⟨U,hU⟩:∃ x,Hid ((droH (cl1H h i) i).us=x):=⟨_,Lib.hid rfl⟩
      obtain ⟨LL,hLL⟩:∃ x,Hid ((droH (cl1H h i) i).l=x):=⟨_,Lib.hid rfl⟩
      rw [hU.out] at HG
      rw [hLL.out] at HDR
      have HC0:Hid (clnH h i=droH (cl1H h i) i):=Lib.hid (if_pos (by rw [hD.out,← HPA.out.1];show countTo daw dan.toNat=0;rw [hcn.out]))
      clear hf1 hp1 hi1
      have hrow:Row w10 w10.heap.size v2U h.us:=W9.u.row
      have hbl:=X2.lt
      have HX2:=Lib.hid X2
      have HR2:=Lib.hid R2
      have HW9:=Lib.hid W9
      have HO2:=Lib.hid hO2
      have HB2:=Lib.hid b2
      have HL1:=Lib.hid l1
      have HLN:=Lib.hid hln
      have hg10:g < w10.heap.size:=by omega
      have rlt:=R2.lt
      clear X2 R2 W9 hO2 b2 l1 l2 hln
      go_wp2_with fail
      refine wp_region_held_drew (S:=(fun X:World=>X.cell? ⟨w.heap.size,3,none⟩=some (.slice (some ⟨g,0,none⟩) h.l.length v2cv)∧X.cell? ⟨g,i * 8 + 1,none⟩=some (.int .i64 dp))) (by kernel_rfl) ?_ (fun hHeld=>?_)
      ·exact kS
      refine tY 0 ?_
      try simp only [Act.put,qZ]
      refine tY 2 ?_
      try simp only [Act.put,qZ]
      refine tY 3 ?_
      try simp only [Act.put,qZ]
      refine tY 4 ?_
      try simp only [Act.put,qZ]
      refine tY 5 ?_
      try simp only [Act.put,qZ]
      refine tY 6 ?_
      try simp only [Act.put,qZ]
      refine tY 7 ?_
      try simp only [Act.put,qZ]
      refine tY 8 ?_
      try simp only [Act.put,qZ]
      refine tR 1 fun K hK=>?_
      try simp only [qZ]
      go_simp
      refine hK.out _ _ ?_ (fun hHeld=>?_)
      ·exact kS
      clear hK K
      try simp only [Act.put,qZ]
      refine tR 9 fun K hK=>?_
      try simp only [qZ]
      go_simp
      go_at_call 120
      refine (HG.out _ _ _ (hrow.later bX)).mono ?_
      rintro e w11 ⟨A3,ca3,rfl,o3,hb_w11⟩
      have k11:Below w10.heap.size w10 w11:=bX
      have hs11:=k11.size
      have mw110:w11.cell? ⟨w.heap.size,3,none⟩=some (.slice (some ⟨g,0,none⟩) h.l.length v2cv):=cX hb_w11
      have mw111:w11.cell? ⟨g,i * 8 + 1,none⟩=some (.int .i64 dp):=cX hb_w11
      have p1:=(k11.cell (p:=⟨w.heap.size,1,none⟩) hbl).trans x1
      have p2:=(k11.cell (p:=⟨w.heap.size,2,none⟩) hbl).trans x2
      have q1:=((bcell k11).2 _ _ hbl).trans fx1
      have q2:=((bcell k11).2 _ _ hbl).trans fx2
      try go_wp2_with fail
      refine hK.out _ _ ?_ (fun hHeld=>?_)
      ·exact kS
      clear hK K
      try simp only [Act.put,qZ]
      refine tY 10 ?_
      try simp only [Act.put,qZ]
      refine tY 11 ?_
      try simp only [Act.put,qZ]
      refine tY 12 ?_
      try simp only [Act.put,qZ]
      refine tY 13 ?_
      try simp only [Act.put,qZ]
      refine tR 14 fun K hK=>?_
      try simp only [qZ]
      go_simp
      have W10_:=HW9.out.later k11
      have R10_:=HR2.out.later k11
      have O10_:=HO2.out.later k11
      have o3n:Own w11 w10.heap.size A3 U:=o3.mono (by first | omega | (simp only [zD];omega))
      have X3:=((HX2.out.later k11).set1 (.int .i64 h.n)).set2 (.slice A3 U.length ca3)
      have W11:=(W10_.far (p:=⟨w.heap.size,1,none⟩) (by show w.heap.size < w1.heap.size;omega) (.int .i64 h.n)).far (p:=⟨w.heap.size,2,none⟩) (by show w.heap.size < w1.heap.size;omega) (.slice A3 U.length ca3)
      have R3:=(R10_.far (p:=⟨w.heap.size,1,none⟩) (by show w.heap.size ≠ w.heap.size + 1;omega) (.int .i64 h.n)).far (p:=⟨w.heap.size,2,none⟩) (by show w.heap.size ≠ w.heap.size + 1;omega) (.slice A3 U.length ca3)
      have hO3:=(O10_.far2 (p:=⟨w.heap.size,1,none⟩) (by show w.heap.size < w5.heap.size;omega) (.int .i64 h.n)).far2 (p:=⟨w.heap.size,2,none⟩) (by show w.heap.size < w5.heap.size;omega) (.slice A3 U.length ca3)
      have oU3:=(o3n.far (p:=⟨w.heap.size,1,none⟩) (.inl (by show w.heap.size < w10.heap.size;omega)) (.int .i64 h.n)).far (p:=⟨w.heap.size,2,none⟩) (.inl (by show w.heap.size < w10.heap.size;omega)) (.slice A3 U.length ca3)
      have b3:=((HB2.out.trans (k11.mono (by omega))).setCell (p:=⟨w.heap.size,1,none⟩) (Nat.le_refl _) (.int .i64 h.n)).setCell (p:=⟨w.heap.size,2,none⟩) (Nat.le_refl _) (.slice A3 U.length ca3)
      have c1Y:=(World.cell?_setCell_far (w11.setCell ⟨w.heap.size,1,none⟩ (.int .i64 h.n)) ⟨w.heap.size,2,none⟩ ⟨g,i * 8 + 1,none⟩ (.slice A3 U.length ca3) (by show w.heap.size ≠ g;omega)).trans ((World.cell?_setCell_far w11 ⟨w.heap.size,1,none⟩ ⟨g,i * 8 + 1,none⟩ (.int .i64 h.n) (by show w.heap.size ≠ g;omega)).trans mw111)
      have u3:=X3.c3
      refine hK.out _ _ ?_ (fun hHeld=>?_)
      ·(try dsimp only);refine ⟨?_,?_⟩ <;> assumption
      clear hK K
      try simp only [Act.put,qZ]
      refine wpAnyH_done (by kernel_rfl) ?_ _
      have hsW3:((w11.setCell ⟨w.heap.size,1,none⟩ (.int .i64 h.n)).setCell ⟨w.heap.size,2,none⟩ (.slice A3 U.length ca3)).heap.size=w11.heap.size:=by simp only [zS]
      clear c1Y u3 p1 p2 q1 q2 mw110 mw111 x0 x1 x2 x3 fx0 fx1 fx2 fx3 W10_ R10_ O10_ o3n o3 hb_w11 k11 hrow c1X hHeld
      generalize (w11.setCell ⟨w.heap.size,1,none⟩ (.int .i64 h.n)).setCell ⟨w.heap.size,2,none⟩ (.slice A3 U.length ca3)=W3_ at *
      have hvrow:=W11.hm.v
      obtain ⟨x0,x1,x2,x3,fx0,fx1,fx2,fx3⟩:=id X3
      go_wp2_with fail
      go_at_call 121
      refine (HDR.out _ _ _ (by exact hvrow)).mono ?_
      rintro e w13 ⟨A5,c5,vs5,rfl,hsd,oC,hb_w13⟩
      clear x0 x1 x2 x3 fx0 fx1 fx2 fx3 hvrow
      have hs13:=hb_w13.size
      have zx3:=X3.lt
      obtain ⟨x0,x1,x2,x3,fx0,fx1,fx2,fx3⟩:=id (X3.later hb_w13)
      have R5_:=R3.later hb_w13
      obtain ⟨z0,z1,z2,z3,fz0,fz1,fz2,fz3⟩:=id R5_
      have R6:=R5_.far (p:=⟨w.heap.size,3,none⟩) (by show w.heap.size ≠ w.heap.size + 1;omega) (.slice A5 LL.length c5)
      have oA6:=(W11.a.later hb_w13).far (p:=⟨w.heap.size,3,none⟩) (.inl (by show w.heap.size < w1.heap.size;omega)) (.slice A5 LL.length c5)
      have oU6:=(oU3.later hb_w13).far (p:=⟨w.heap.size,3,none⟩) (.inl (by show w.heap.size < w10.heap.size;omega)) (.slice A5 LL.length c5)
      have oC6:=oC.far (p:=⟨w.heap.size,3,none⟩) (by show w.heap.size < W3_.heap.size;omega) (.slice A5 LL.length c5)
      have hO6:=(hO3.later hb_w13).far2 (p:=⟨w.heap.size,3,none⟩) (by show w.heap.size < w5.heap.size;omega) (.slice A5 LL.length c5)
      have b6:=(b3.trans (hb_w13.mono (by omega))).setCell (p:=⟨w.heap.size,3,none⟩) (Nat.le_refl _) (.slice A5 LL.length c5)
      have E9:=R6.all (.slice A' h.ws.length ca') (.int .i64 h.n) (.slice A3 U.length ca3) (.slice A5 LL.length c5)
      have HMa:=Lib.hid (oA6.all4 (b:=w.heap.size + 1) (by omega) (.slice A' h.ws.length ca') (.int .i64 h.n) (.slice A3 U.length ca3) (.slice A5 LL.length c5)).row
      have HMu:=Lib.hid (oU6.all4 (b:=w.heap.size + 1) (by omega) (.slice A' h.ws.length ca') (.int .i64 h.n) (.slice A3 U.length ca3) (.slice A5 LL.length c5)).row
      have HMs:=(oC6.all4 (b:=w.heap.size + 1) (by omega) (.slice A' h.ws.length ca') (.int .i64 h.n) (.slice A3 U.length ca3) (.slice A5 LL.length c5)).srow
      rw [hsd] at HMs
      have HMS:=Lib.hid HMs
      have O9:=Lib.hid (hO6.all (b:=w.heap.size + 1) (by omega) (.slice A' h.ws.length ca') (.int .i64 h.n) (.slice A3 U.length ca3) (.slice A5 LL.length c5)).row
      have HB9:=Lib.hid (below_all b6 (b:=w.heap.size + 1) (by omega) (.slice A' h.ws.length ca') (.int .i64 h.n) (.slice A3 U.length ca3) (.slice A5 LL.length c5))
      clear R6 oA6 oU6 oC6 hO6 b6 HMs R5_ X3 R3 W11 hO3 oU3 b3 oC hsd hb_w13
      go_wp2
      refine bodyPost_ret (res_hp3 rfl rfl E9) rfl ?_
      exact ⟨⟨A',ca',A3,ca3,A5,c5⟩,Al,cl,by rw [HC0.out,hU.out,hLL.out,show (droH (cl1H h i) i).ws=(cl1H h i).ws from rfl,HL1.out,HLN.out];rfl,by rw [HC0.out];exact ⟨HMa.out,by rw [hU.out];exact HMu.out,by rw [hLL.out];exact HMS.out⟩,O9.out,HB9.out⟩
     ·have f0:((cn:Int) == 0)=false:=beq_eq_false_iff_ne.2 (by omega)
      have f1:(cn == 0)=false:=beq_eq_false_iff_ne.2 hz
      have HC0:Hid (clnH h i=cl1H h i):=Lib.hid (if_neg (by rw [hD.out,← HPA.out.1];show ¬ countTo daw dan.toNat=0;rw [hcn.out];exact hz))
      obtain ⟨z0,z1,z2,z3,fz0,fz1,fz2,fz3⟩:=id R2
      have E9:=R2.all (.slice A' h.ws.length ca') (.int .i64 h.n) (.slice v2U h.us.length v2cu) (.slice (some ⟨g,0,none⟩) h.l.length v2cv)
      have HM9:=Lib.hid (W9.all (b:=w.heap.size + 1) (by omega) (.slice A' h.ws.length ca') (.int .i64 h.n) (.slice v2U h.us.length v2cu) (.slice (some ⟨g,0,none⟩) h.l.length v2cv)).hm
      have O9:=Lib.hid (hO2.all (b:=w.heap.size + 1) (by omega) (.slice A' h.ws.length ca') (.int .i64 h.n) (.slice v2U h.us.length v2cu) (.slice (some ⟨g,0,none⟩) h.l.length v2cv)).row
      have b9:=below_all b2 (b:=w.heap.size + 1) (by omega) (.slice A' h.ws.length ca') (.int .i64 h.n) (.slice v2U h.us.length v2cu) (.slice (some ⟨g,0,none⟩) h.l.length v2cv)
      have HL1:=Lib.hid l1
      have HL2:=Lib.hid l2
      have HLN:=Lib.hid hln
      clear l1 l2 hln
      go_wp2
      refine bodyPost_ret (res_hp3 rfl rfl E9) rfl ?_
      exact ⟨⟨A',ca',v2U,v2cu,some ⟨g,0,none⟩,v2cv⟩,Al,cl,by rw [HC0.out,HL1.out,HL2.out,HLN.out];rfl,by rw [HC0.out];exact HM9.out,O9.out,b9⟩
end
theorem xcleanH_any {w:World} {v:Hv} {h:Hp} (hm:HM w w.heap.size v h) (h2:h.l.length ≤ 17592186044416) (f:Int) (h':Hp) (t:List Nat) (y:Int) (hE:ClnE h f h' t y) :
  Calls Tryz.prog 41 #[hpV v h,.int .i64 f] w fun e w'=>GotHw w h' t y e w':=by
 rcases hE with ⟨hk,rfl,rfl,rfl⟩ | ⟨hk,hI,rfl,rfl,rfl⟩ | ⟨i,hk,hI,hs,rfl,rfl,rfl⟩ | ⟨i,hk,hI,hs,rfl,rfl,rfl⟩
 ·exact xclean_n hm h2 f hk
 ·exact xclean_none hm h2 f hk hI
 ·exact xclean_s hm h2 f hk hI hs
 ·exact xclean_m hm h2 f hk hI hs
theorem TrnE.short {h:Hp} {h':Hp} {y:Int} (hE:TrnE h h' y):Short h':=by
 by_cases hk:OkH h
 ·exact (hE.ok hk).short
 ·rcases hE with ⟨_,rfl,_⟩ | ⟨q,_⟩ | ⟨q,_⟩ | ⟨q,_⟩
  ·exact Short.zero
  ·exact absurd q hk
  ·exact absurd q hk
  ·exact absurd q hk
theorem ClnE.short {h:Hp} {f:Int} {h':Hp} {t:List Nat} {y:Int} (hE:ClnE h f h' t y):Short h':=by
 by_cases hk:OkH h
 ·exact (hE.ok hk).short
 ·rcases hE with ⟨_,rfl,_⟩ | ⟨q,_⟩ | ⟨_,q,_⟩ | ⟨_,q,_⟩
  ·exact Short.zero
  ·exact absurd q hk
  ·exact absurd q hk
  ·exact absurd q hk
theorem ClnE.len {h:Hp} {f:Int} {h':Hp} {t:List Nat} {y:Int} (hE:ClnE h f h' t y):t.length ≤ 8:=by
 rcases hE with ⟨_,_,rfl,_⟩ | ⟨_,_,_,rfl,_⟩ | ⟨_,_,_,_,_,rfl,_⟩ | ⟨i,hk,hI,_,_,rfl,_⟩
 ·simp
 ·simp
 ·simp
 ·have h1:=unmA_len (nth h.l i) (slN (nth h.l i))
  have h2:=(hk.framed.spans.at_ hI.lt).slK
  unfold usD
  omega
set_option maxHeartbeats 8000000 in
theorem heapSweeps_walk (v:Hv) (h:Hp) (f:Int) (w:World) (hz:Sizes w) (hM:HM w w.heap.size v h) (hs:Short h) :
  Calls Tryz.prog 6 #[hpV v h,.int .i64 f] w fun e w'=>e=.returned (.bool true)∧Below w.heap.size w w':=by
 have X0:=HIn.new hM 31
 obtain ⟨h1,y1,E1⟩:=TrnE.ex h
 obtain ⟨h2,t2,y2,E2⟩:=ClnE.ex h f
 obtain ⟨h3,t3,y3,E3⟩:=ClnE.ex h1 f
 have hs1:=E1.short
 have hs2:=E2.short
 have hs3:=E3.short
 have l2:=E2.len
 have l3:=E3.len
 have HCP:=Lib.hid fun (w:World) hM=>hcopyN_any (w:=w) (v:=v) (h:=h) hM hs
 have HT1:=Lib.hid fun (w:World) (v:Hv) hz hM hn=>zturnH_any (w:=w) (v:=v) (h:=h) hz hM (by have:=hs.l;omega) hs.ws hn h1 y1 E1
 have HT2:=Lib.hid fun (w:World) (v:Hv) hM=>xturnH_any (w:=w) (v:=v) (h:=h) hM (by have:=hs.l;omega) h1 y1 E1
 have HA1:=Lib.hid fun (w:World) (v:Hv) hz hM hn=>zcleanH_any (w:=w) (v:=v) (h:=h) hz hM (by have:=hs.l;omega) hs.ws hn f h2 t2 y2 E2
 have HA2:=Lib.hid fun (w:World) (v:Hv) hM=>xcleanH_any (w:=w) (v:=v) (h:=h) hM (by have:=hs.l;omega) f h2 t2 y2 E2
 have HB1:=Lib.hid fun (w:World) (v:Hv) hz hM hn=>zcleanH_any (w:=w) (v:=v) (h:=h1) hz hM (by have:=hs1.l;omega) hs1.ws hn f h3 t3 y3 E3
 have HB2:=Lib.hid fun (w:World) (v:Hv) hM=>xcleanH_any (w:=w) (v:=v) (h:=h1) hM (by have:=hs1.l;omega) f h3 t3 y3 E3
 have HC1:=Lib.hid fun (w:World) (v v':Hv) m m'=>hsame_any (w:=w) (v:=v) (v':=v') (h:=h1) m m' hs1
 have HC2:=Lib.hid fun (w:World) (v v':Hv) m m'=>hsame_any (w:=w) (v:=v) (v':=v') (h:=h2) m m' hs2
 have HC3:=Lib.hid fun (w:World) (v v':Hv) m m'=>hsame_any (w:=w) (v:=v) (v':=v') (h:=h3) m m' hs3
 have HC0:=Lib.hid fun (w:World) (v v':Hv) m m'=>hsame_any (w:=w) (v:=v) (v':=v') (h:=h) m m' hs
 have HS2:=Lib.hid fun (w:World) (A C:Option Addr) (ca cc:Nat) hr hq=>hsameaddrs_any (w:=w) (A:=A) (C:=C) (t:=t2) ca cc (by omega) hr hq
 have HS3:=Lib.hid fun (w:World) (A C:Option Addr) (ca cc:Nat) hr hq=>hsameaddrs_any (w:=w) (A:=A) (C:=C) (t:=t3) ca cc (by omega) hr hq
 have e1:(y1 == y1)=true:=by simp
 have e2:(y2 == y2)=true:=by simp
 have e3:(y3 == y3)=true:=by simp
 unfold FreshH at HT1
 unfold GotH at HT2
 unfold FreshHw at HA1 HB1
 unfold GotHw at HA2 HB2
 clear E1 E2 E3 hs hs1 hs2 hs3 hM l2 l3
 unfold hpV hpv at HCP HT1 HT2 HA1 HA2 HB1 HB2 HC1 HC2 HC3 HC0 ⊢
 go_enter Tryz.func6,Tryz.ntmps6
 obtain ⟨X0_c0,X0_c1,X0_c2,X0_c3,X0_f0,X0_f1,X0_f2,X0_f3⟩:=id X0.box
 go_wp2_with fail
 go_at_call 14
 refine (HCP.out _ (by exact X0.m)).mono ?_
 rintro e w1 ⟨vg,rfl,mg,ng,hb_w1⟩
 clear X0_c0 X0_c1 X0_c2 X0_c3 X0_f0 X0_f1 X0_f2 X0_f3
 have b_w1:Below w.heap.size w w1:=bX
 replace X0:=X0.later hb_w1
 have a_w1_0:Below w1.heap.size w1 (w1.alloc (.cells #[.slice vg.A h.ws.length vg.ca,.int .i64 h.n,.slice vg.U h.us.length vg.cu,.slice vg.V h.l.length vg.cv] 31)):=Below.alloc (Below.refl _ _) (Nat.le_refl _) _
 replace X0:=X0.later a_w1_0
 have Xg:=HIn.new mg 31
 have b_w1_0:Below w.heap.size w (w1.alloc (.cells #[.slice vg.A h.ws.length vg.ca,.int .i64 h.n,.slice vg.U h.us.length vg.cu,.slice vg.V h.l.length vg.cv] 31)):=b_w1.trans (a_w1_0.mono b_w1.size)
 obtain ⟨Xg_c0,Xg_c1,Xg_c2,Xg_c3,Xg_f0,Xg_f1,Xg_f2,Xg_f3⟩:=id Xg.box
 go_wp2_with fail
 go_at_call 38
 refine (HT1.out _ _ (hz.later (by exact b_w1_0)) (by exact Xg.m) ng).mono ?_
 rintro e w2 ⟨v2,rfl,o2,hb_w2⟩
 have n2:=o2.nil
 clear Xg_c0 Xg_c1 Xg_c2 Xg_c3 Xg_f0 Xg_f1 Xg_f2 Xg_f3
 have b_w2:Below w.heap.size w w2:=b_w1_0.trans (hb_w2.mono b_w1_0.size)
 replace X0:=X0.later hb_w2
 replace Xg:=Xg.later hb_w2
 have a_w2_0:Below w2.heap.size w2 (w2.alloc (.cells #[.slice v2.A h1.ws.length v2.ca,.int .i64 h1.n,.slice v2.U h1.us.length v2.cu,.slice v2.V h1.l.length v2.cv] 31)):=Below.alloc (Below.refl _ _) (Nat.le_refl _) _
 replace X0:=X0.later a_w2_0
 replace Xg:=Xg.later a_w2_0
 have X2:=HIn.new o2.hm 31
 have b_w2_0:Below w.heap.size w (w2.alloc (.cells #[.slice v2.A h1.ws.length v2.ca,.int .i64 h1.n,.slice v2.U h1.us.length v2.cu,.slice v2.V h1.l.length v2.cv] 31)):=b_w2.trans (a_w2_0.mono b_w2.size)
 obtain ⟨X0_c0,X0_c1,X0_c2,X0_c3,X0_f0,X0_f1,X0_f2,X0_f3⟩:=id X0.box
 go_wp2_with fail
 go_at_call 39
 refine (HT2.out _ _ (by exact X0.m)).mono ?_
 rintro e w3 ⟨v3,rfl,m3,hb_w3⟩
 clear X0_c0 X0_c1 X0_c2 X0_c3 X0_f0 X0_f1 X0_f2 X0_f3
 have b_w3:Below w.heap.size w w3:=b_w2_0.trans (hb_w3.mono b_w2_0.size)
 replace X0:=X0.later hb_w3
 replace Xg:=Xg.later hb_w3
 replace X2:=X2.later hb_w3
 have a_w3_0:Below w3.heap.size w3 (w3.alloc (.cells #[.slice v3.A h1.ws.length v3.ca,.int .i64 h1.n,.slice v3.U h1.us.length v3.cu,.slice v3.V h1.l.length v3.cv] 31)):=Below.alloc (Below.refl _ _) (Nat.le_refl _) _
 replace X0:=X0.later a_w3_0
 replace Xg:=Xg.later a_w3_0
 replace X2:=X2.later a_w3_0
 have X3:=HIn.new m3 31
 have b_w3_0:Below w.heap.size w (w3.alloc (.cells #[.slice v3.A h1.ws.length v3.ca,.int .i64 h1.n,.slice v3.U h1.us.length v3.cu,.slice v3.V h1.l.length v3.cv] 31)):=b_w3.trans (a_w3_0.mono b_w3.size)
 obtain ⟨Xg_c0,Xg_c1,Xg_c2,Xg_c3,Xg_f0,Xg_f1,Xg_f2,Xg_f3⟩:=id Xg.box
 go_wp2_with fail
 go_at_call 40
 refine (HA1.out _ _ (hz.later (by exact b_w3_0)) (by exact Xg.m) ng).mono ?_
 rintro e w4 ⟨v4,A4,c4,rfl,o4,r4,hb_w4⟩
 clear Xg_c0 Xg_c1 Xg_c2 Xg_c3 Xg_f0 Xg_f1 Xg_f2 Xg_f3
 have b_w4:Below w.heap.size w w4:=b_w3_0.trans (hb_w4.mono b_w3_0.size)
 replace X0:=X0.later hb_w4
 replace Xg:=Xg.later hb_w4
 replace X2:=X2.later hb_w4
 replace X3:=X3.later hb_w4
 have a_w4_0:Below w4.heap.size w4 (w4.alloc (.cells #[.slice v4.A h2.ws.length v4.ca,.int .i64 h2.n,.slice v4.U h2.us.length v4.cu,.slice v4.V h2.l.length v4.cv] 31)):=Below.alloc (Below.refl _ _) (Nat.le_refl _) _
 replace X0:=X0.later a_w4_0
 replace Xg:=Xg.later a_w4_0
 replace X2:=X2.later a_w4_0
 replace X3:=X3.later a_w4_0
 have X4:=HIn.new o4.hm 31
 have b_w4_0:Below w.heap.size w (w4.alloc (.cells #[.slice v4.A h2.ws.length v4.ca,.int .i64 h2.n,.slice v4.U h2.us.length v4.cu,.slice v4.V h2.l.length v4.cv] 31)):=b_w4.trans (a_w4_0.mono b_w4.size)
 have R4:=r4.row.later a_w4_0
 obtain ⟨X0_c0,X0_c1,X0_c2,X0_c3,X0_f0,X0_f1,X0_f2,X0_f3⟩:=id X0.box
 go_wp2_with fail
 go_at_call 41
 refine (HA2.out _ _ (by exact X0.m)).mono ?_
 rintro e w5 ⟨v5,A5,c5,rfl,m5,r5,hb_w5⟩
 clear X0_c0 X0_c1 X0_c2 X0_c3 X0_f0 X0_f1 X0_f2 X0_f3
 have b_w5:Below w.heap.size w w5:=b_w4_0.trans (hb_w5.mono b_w4_0.size)
 replace X0:=X0.later hb_w5
 replace Xg:=Xg.later hb_w5
 replace X2:=X2.later hb_w5
 replace X3:=X3.later hb_w5
 replace X4:=X4.later hb_w5
 replace R4:=R4.later hb_w5
 have a_w5_0:Below w5.heap.size w5 (w5.alloc (.cells #[.slice v5.A h2.ws.length v5.ca,.int .i64 h2.n,.slice v5.U h2.us.length v5.cu,.slice v5.V h2.l.length v5.cv] 31)):=Below.alloc (Below.refl _ _) (Nat.le_refl _) _
 replace X0:=X0.later a_w5_0
 replace Xg:=Xg.later a_w5_0
 replace X2:=X2.later a_w5_0
 replace X3:=X3.later a_w5_0
 replace X4:=X4.later a_w5_0
 replace R4:=R4.later a_w5_0
 have X5:=HIn.new m5 31
 have b_w5_0:Below w.heap.size w (w5.alloc (.cells #[.slice v5.A h2.ws.length v5.ca,.int .i64 h2.n,.slice v5.U h2.us.length v5.cu,.slice v5.V h2.l.length v5.cv] 31)):=b_w5.trans (a_w5_0.mono b_w5.size)
 have R5:=r5.later a_w5_0
 obtain ⟨X2_c0,X2_c1,X2_c2,X2_c3,X2_f0,X2_f1,X2_f2,X2_f3⟩:=id X2.box
 go_wp2_with fail
 go_at_call 40
 refine (HB1.out _ _ (hz.later (by exact b_w5_0)) (by exact X2.m) n2).mono ?_
 rintro e w6 ⟨v6,A6,c6,rfl,o6,r6,hb_w6⟩
 clear X2_c0 X2_c1 X2_c2 X2_c3 X2_f0 X2_f1 X2_f2 X2_f3
 have b_w6:Below w.heap.size w w6:=b_w5_0.trans (hb_w6.mono b_w5_0.size)
 replace X0:=X0.later hb_w6
 replace Xg:=Xg.later hb_w6
 replace X2:=X2.later hb_w6
 replace X3:=X3.later hb_w6
 replace X4:=X4.later hb_w6
 replace R4:=R4.later hb_w6
 replace X5:=X5.later hb_w6
 replace R5:=R5.later hb_w6
 have a_w6_0:Below w6.heap.size w6 (w6.alloc (.cells #[.slice v6.A h3.ws.length v6.ca,.int .i64 h3.n,.slice v6.U h3.us.length v6.cu,.slice v6.V h3.l.length v6.cv] 31)):=Below.alloc (Below.refl _ _) (Nat.le_refl _) _
 replace X0:=X0.later a_w6_0
 replace Xg:=Xg.later a_w6_0
 replace X2:=X2.later a_w6_0
 replace X3:=X3.later a_w6_0
 replace X4:=X4.later a_w6_0
 replace R4:=R4.later a_w6_0
 replace X5:=X5.later a_w6_0
 replace R5:=R5.later a_w6_0
 have X6:=HIn.new o6.hm 31
 have b_w6_0:Below w.heap.size w (w6.alloc (.cells #[.slice v6.A h3.ws.length v6.ca,.int .i64 h3.n,.slice v6.U h3.us.length v6.cu,.slice v6.V h3.l.length v6.cv] 31)):=b_w6.trans (a_w6_0.mono b_w6.size)
 have R6:=r6.row.later a_w6_0
 obtain ⟨X3_c0,X3_c1,X3_c2,X3_c3,X3_f0,X3_f1,X3_f2,X3_f3⟩:=id X3.box
 go_wp2_with fail
 go_at_call 41
 refine (HB2.out _ _ (by exact X3.m)).mono ?_
 rintro e w7 ⟨v7,A7,c7,rfl,m7,r7,hb_w7⟩
 clear X3_c0 X3_c1 X3_c2 X3_c3 X3_f0 X3_f1 X3_f2 X3_f3
 have b_w7:Below w.heap.size w w7:=b_w6_0.trans (hb_w7.mono b_w6_0.size)
 replace X0:=X0.later hb_w7
 replace Xg:=Xg.later hb_w7
 replace X2:=X2.later hb_w7
 replace X3:=X3.later hb_w7
 replace X4:=X4.later hb_w7
 replace R4:=R4.later hb_w7
 replace X5:=X5.later hb_w7
 replace R5:=R5.later hb_w7
 replace X6:=X6.later hb_w7
 replace R6:=R6.later hb_w7
 have a_w7_0:Below w7.heap.size w7 (w7.alloc (.cells #[.slice v7.A h3.ws.length v7.ca,.int .i64 h3.n,.slice v7.U h3.us.length v7.cu,.slice v7.V h3.l.length v7.cv] 31)):=Below.alloc (Below.refl _ _) (Nat.le_refl _) _
 replace X0:=X0.later a_w7_0
 replace Xg:=Xg.later a_w7_0
 replace X2:=X2.later a_w7_0
 replace X3:=X3.later a_w7_0
 replace X4:=X4.later a_w7_0
 replace R4:=R4.later a_w7_0
 replace X5:=X5.later a_w7_0
 replace R5:=R5.later a_w7_0
 replace X6:=X6.later a_w7_0
 replace R6:=R6.later a_w7_0
 have X7:=HIn.new m7 31
 have b_w7_0:Below w.heap.size w (w7.alloc (.cells #[.slice v7.A h3.ws.length v7.ca,.int .i64 h3.n,.slice v7.U h3.us.length v7.cu,.slice v7.V h3.l.length v7.cv] 31)):=b_w7.trans (a_w7_0.mono b_w7.size)
 have R7:=r7.later a_w7_0
 clear o2 m3 o4 r4 m5 r5 o6 r6 m7 r7 mg ng n2
 go_wp2_with fail
 go_at_call 19
 refine (hlives_any _ (hz.later (by exact b_w7_0))).mono ?_
 rintro e w8 ⟨rfl,hb_w8⟩
 have b_w8:Below w.heap.size w w8:=b_w7_0.trans (hb_w8.mono b_w7_0.size)
 replace X0:=X0.later hb_w8
 replace Xg:=Xg.later hb_w8
 replace X2:=X2.later hb_w8
 replace X3:=X3.later hb_w8
 replace X4:=X4.later hb_w8
 replace R4:=R4.later hb_w8
 replace X5:=X5.later hb_w8
 replace R5:=R5.later hb_w8
 replace X6:=X6.later hb_w8
 replace R6:=R6.later hb_w8
 replace X7:=X7.later hb_w8
 replace R7:=R7.later hb_w8
 obtain ⟨X2_c0,X2_c1,X2_c2,X2_c3,X2_f0,X2_f1,X2_f2,X2_f3⟩:=id X2.box
 obtain ⟨X3_c0,X3_c1,X3_c2,X3_c3,X3_f0,X3_f1,X3_f2,X3_f3⟩:=id X3.box
 go_wp2_with fail
 go_at_call 20
 refine (HC1.out _ _ _ (by exact X2.m) (by exact X3.m)).mono ?_
 rintro e w9 ⟨rfl,hb_w9⟩
 clear X2_c0 X2_c1 X2_c2 X2_c3 X2_f0 X2_f1 X2_f2 X2_f3 X3_c0 X3_c1 X3_c2 X3_c3 X3_f0 X3_f1 X3_f2 X3_f3
 have b_w9:Below w.heap.size w w9:=b_w8.trans (hb_w9.mono b_w8.size)
 replace X0:=X0.later hb_w9
 replace Xg:=Xg.later hb_w9
 replace X2:=X2.later hb_w9
 replace X3:=X3.later hb_w9
 replace X4:=X4.later hb_w9
 replace R4:=R4.later hb_w9
 replace X5:=X5.later hb_w9
 replace R5:=R5.later hb_w9
 replace X6:=X6.later hb_w9
 replace R6:=R6.later hb_w9
 replace X7:=X7.later hb_w9
 replace R7:=R7.later hb_w9
 obtain ⟨X4_c0,X4_c1,X4_c2,X4_c3,X4_f0,X4_f1,X4_f2,X4_f3⟩:=id X4.box
 obtain ⟨X5_c0,X5_c1,X5_c2,X5_c3,X5_f0,X5_f1,X5_f2,X5_f3⟩:=id X5.box
 go_wp2_with fail
 go_at_call 20
 refine (HC2.out _ _ _ (by exact X4.m) (by exact X5.m)).mono ?_
 rintro e w10 ⟨rfl,hb_w10⟩
 clear X4_c0 X4_c1 X4_c2 X4_c3 X4_f0 X4_f1 X4_f2 X4_f3 X5_c0 X5_c1 X5_c2 X5_c3 X5_f0 X5_f1 X5_f2 X5_f3
 have b_w10:Below w.heap.size w w10:=b_w9.trans (hb_w10.mono b_w9.size)
 replace X0:=X0.later hb_w10
 replace Xg:=Xg.later hb_w10
 replace X2:=X2.later hb_w10
 replace X3:=X3.later hb_w10
 replace X4:=X4.later hb_w10
 replace R4:=R4.later hb_w10
 replace X5:=X5.later hb_w10
 replace R5:=R5.later hb_w10
 replace X6:=X6.later hb_w10
 replace R6:=R6.later hb_w10
 replace X7:=X7.later hb_w10
 replace R7:=R7.later hb_w10
 go_wp2_with fail
 go_at_call 37
 refine (HS2.out _ _ _ _ _ (by exact R4) (by exact R5)).mono ?_
 rintro e w11 ⟨rfl,hb_w11⟩
 have b_w11:Below w.heap.size w w11:=b_w10.trans (hb_w11.mono b_w10.size)
 replace X0:=X0.later hb_w11
 replace Xg:=Xg.later hb_w11
 replace X2:=X2.later hb_w11
 replace X3:=X3.later hb_w11
 replace X4:=X4.later hb_w11
 replace R4:=R4.later hb_w11
 replace X5:=X5.later hb_w11
 replace R5:=R5.later hb_w11
 replace X6:=X6.later hb_w11
 replace R6:=R6.later hb_w11
 replace X7:=X7.later hb_w11
 replace R7:=R7.later hb_w11
 obtain ⟨X6_c0,X6_c1,X6_c2,X6_c3,X6_f0,X6_f1,X6_f2,X6_f3⟩:=id X6.box
 obtain ⟨X7_c0,X7_c1,X7_c2,X7_c3,X7_f0,X7_f1,X7_f2,X7_f3⟩:=id X7.box
 go_wp2_with fail
 go_at_call 20
 refine (HC3.out _ _ _ (by exact X6.m) (by exact X7.m)).mono ?_
 rintro e w12 ⟨rfl,hb_w12⟩
 clear X6_c0 X6_c1 X6_c2 X6_c3 X6_f0 X6_f1 X6_f2 X6_f3 X7_c0 X7_c1 X7_c2 X7_c3 X7_f0 X7_f1 X7_f2 X7_f3
 have b_w12:Below w.heap.size w w12:=b_w11.trans (hb_w12.mono b_w11.size)
 replace X0:=X0.later hb_w12
 replace Xg:=Xg.later hb_w12
 replace X2:=X2.later hb_w12
 replace X3:=X3.later hb_w12
 replace X4:=X4.later hb_w12
 replace R4:=R4.later hb_w12
 replace X5:=X5.later hb_w12
 replace R5:=R5.later hb_w12
 replace X6:=X6.later hb_w12
 replace R6:=R6.later hb_w12
 replace X7:=X7.later hb_w12
 replace R7:=R7.later hb_w12
 go_wp2_with fail
 go_at_call 37
 refine (HS3.out _ _ _ _ _ (by exact R6) (by exact R7)).mono ?_
 rintro e w13 ⟨rfl,hb_w13⟩
 have b_w13:Below w.heap.size w w13:=b_w12.trans (hb_w13.mono b_w12.size)
 replace X0:=X0.later hb_w13
 replace Xg:=Xg.later hb_w13
 replace X2:=X2.later hb_w13
 replace X3:=X3.later hb_w13
 replace X4:=X4.later hb_w13
 replace R4:=R4.later hb_w13
 replace X5:=X5.later hb_w13
 replace R5:=R5.later hb_w13
 replace X6:=X6.later hb_w13
 replace R6:=R6.later hb_w13
 replace X7:=X7.later hb_w13
 replace R7:=R7.later hb_w13
 obtain ⟨X0_c0,X0_c1,X0_c2,X0_c3,X0_f0,X0_f1,X0_f2,X0_f3⟩:=id X0.box
 obtain ⟨Xg_c0,Xg_c1,Xg_c2,Xg_c3,Xg_f0,Xg_f1,Xg_f2,Xg_f3⟩:=id Xg.box
 go_wp2_with fail
 go_at_call 20
 refine (HC0.out _ _ _ (by exact Xg.m) (by exact X0.m)).mono ?_
 rintro e w14 ⟨rfl,hb_w14⟩
 clear X0_c0 X0_c1 X0_c2 X0_c3 X0_f0 X0_f1 X0_f2 X0_f3 Xg_c0 Xg_c1 Xg_c2 Xg_c3 Xg_f0 Xg_f1 Xg_f2 Xg_f3
 have b_w14:Below w.heap.size w w14:=b_w13.trans (hb_w14.mono b_w13.size)
 replace X0:=X0.later hb_w14
 replace Xg:=Xg.later hb_w14
 replace X2:=X2.later hb_w14
 replace X3:=X3.later hb_w14
 replace X4:=X4.later hb_w14
 replace R4:=R4.later hb_w14
 replace X5:=X5.later hb_w14
 replace R5:=R5.later hb_w14
 replace X6:=X6.later hb_w14
 replace R6:=R6.later hb_w14
 replace X7:=X7.later hb_w14
 replace R7:=R7.later hb_w14
 go_wp2
 go_ret
 exact ⟨rfl,b_w14⟩
end Go.Proofs.YtkfmbhlefppkhaaGreatDoor
