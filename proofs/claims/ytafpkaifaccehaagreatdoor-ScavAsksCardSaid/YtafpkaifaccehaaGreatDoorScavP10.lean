/- Parts of the proof. -/
import Derived.Test.YtafpkaifaccehaaGreatDoorScavP9
set_option maxRecDepth 100000
set_option linter.unusedVariables false
set_option linter.unusedSimpArgs false
namespace Go.Proofs.YtafpkaifaccehaaGreatDoor
open Go.RowKit
def obV (o:Ob):Value:=.agg #[.int .u64 o.a,.int .i64 o.n,.int .u64 o.m,.int .i64 o.i,.int .i64 o.k,.bool o.b]
theorem res_ob {fn:Func} {p:Tmp} (h:fn.results=#[.cell p 161]) {tmps:Array Value} {w:World} {g:Nat} {v0 v1 v2 v3 v4 v5:Value} (hp:tmps.getD p undef=.pointer (some ⟨g,0,none⟩))
  (h0:w.cell? ⟨g,0,none⟩=some v0) (h1:w.cell? ⟨g,1,none⟩=some v1) (h2:w.cell? ⟨g,2,none⟩=some v2) (h3:w.cell? ⟨g,3,none⟩=some v3) (h4:w.cell? ⟨g,4,none⟩=some v4) (h5:w.cell? ⟨g,5,none⟩=some v5) :
  (results fn tmps).run Tryz.prog w=.ok (.agg #[v0,v1,v2,v3,v4,v5]) w:=by
 have hp2:tmps[p]?.getD undef=.pointer (some ⟨g,0,none⟩):=by rw [← hp];simp
 simp only [results,h]
 simp [go_sem,Result.andThen,h0,h1,h2,h3,h4,h5,asAddr,hp2]
theorem res_bits1 {fn:Func} {p:Tmp} (h:fn.results=#[.cell p 26]) {tmps:Array Value} {w:World} {g:Nat} {v0 v1:Value} (hp:tmps.getD p undef=.pointer (some ⟨g,0,none⟩))
  (h0:w.cell? ⟨g,0,none⟩=some v0) (h1:w.cell? ⟨g,1,none⟩=some v1):(results fn tmps).run Tryz.prog w=.ok (.agg #[v0,v1]) w:=by
 have hp2:tmps[p]?.getD undef=.pointer (some ⟨g,0,none⟩):=by rw [← hp];simp
 simp only [results,h]
 simp [go_sem,Result.andThen,h0,h1,asAddr,hp2]
section
variable {w:World} {d:Sd} {A M:Option Addr} (ca cm:Nat)
theorem zcurs_any :
  Calls Tryz.prog 238 #[spv d A ca M cm] w fun e w'=>e=.returned (.agg #[.int .i64 (if d.s then d.an else d.mn),.slice (if d.s then A else M) (curW d).length (if d.s then ca else cm)])∧Below w.heap.size w w':=by
 obtain ⟨f,p,z,an,aw,mn,mw,s⟩:=d
 unfold spv curW
 simp only
 rcases s with _ | _
 ·go_enter Tryz.func238,Tryz.ntmps238
  go_wp2
  refine bodyPost_ret (res_bits1 (g:=w.heap.size + 1) (v0:=.int .i64 mn) (v1:=.slice M mw.length cm) rfl rfl ?_ ?_) rfl ?_
  ·simp [go_sem]
  ·simp [go_sem]
  ·exact ⟨rfl,bX⟩
 ·go_enter Tryz.func238,Tryz.ntmps238
  go_wp2
  refine bodyPost_ret (res_bits1 (g:=w.heap.size + 1) (v0:=.int .i64 an) (v1:=.slice A aw.length ca) rfl rfl ?_ ?_) rfl ?_
  ·simp [go_sem]
  ·simp [go_sem]
  ·exact ⟨rfl,bX⟩
end
section
variable {w:World} {n:Int} {A U V:Option Addr} {ws:List Nat} {l:List Sd} (ca nu cu cv:Nat)
set_option maxHeartbeats 1000000 in
theorem zobject_any (hr:Row w w.heap.size A ws) (hv:SRow w w.heap.size V l) (hl:ws.length ≤ 16384) (hok:OkL l) (i k:Nat) (hi:i < l.length) (hk:k < slN (nth l i)) :
  Calls Tryz.prog 239 #[hpv A ws.length ca n U nu cu V l.length cv,.int .i64 (i:Nat),.int .i64 (k:Nat)] w fun e w'=>e=.returned (obV (obAt ws (nth l i) i k))∧Below w.heap.size w w':=by
 have ok:=hok.at_ hi
 have hl256:=hok.1
 obtain ⟨N1,N8,HN⟩:=ok.slK
 have hpl:=ok.placed
 unfold Placed at hpl
 have hsz:=ok.sized.slots
 obtain ⟨e1,e2,e3⟩:=ok.slA_eq hk
 have HAE:=Lib.hid (show AddrE (nth l i) (k:Int) ((slA (nth l i) k:Nat):Int) 0 from .inl ⟨ok,by omega,by omega,e1,rfl⟩)
 have HM:=Lib.hid ok.m
 have hmn:=ok.mn
 have hM1:(k:Int) < (nth l i).mn:=by rw [hmn];omega
 obtain ⟨bb,off,rfl,hbb,hc⟩:=hv.at_ (by omega)
 obtain ⟨Aa,caa,Am,cam,c8,ra,rm⟩:=hc i hi
 unfold obAt obV
 simp only
 generalize hd:nth l i=d at *
 obtain ⟨a,ha⟩:∃ a,Hid (slA d k=a):=⟨_,rfl⟩
 rw [ha.out] at HAE e1 ⊢
 obtain ⟨x,hx⟩:∃ x,Hid (ws.getD a 0=x):=⟨_,rfl⟩
 have hxl:x < W64:=by rw [← hx.out];exact hr.words.at_ _
 rw [hx.out]
 obtain ⟨t,ht⟩:∃ t,Hid (tb d.mw k=t):=⟨_,rfl⟩
 rw [ht.out]
 have HAD:=Lib.hid fun (w:World) hA hM=>sAddr_any (w:=w) (d:=d) (A:=Aa) (M:=Am) caa cam hA hM (k:Int) (a:Nat) 0 HAE.out
 have HWO:=Lib.hid fun (w:World) hr=>zword_any (w:=w) (n:=n) (A:=A) (U:=U) (V:=some ⟨bb,off,none⟩) (ws:=ws) ca cu cv nu l.length a hr (by unfold W64;omega)
 rw [gotA_eq hl,hx.out] at HWO
 have HUN:=Lib.hid fun (w:World)=>hunpack_any (w:=w) x hxl
 have HGE:=Lib.hid fun (w:World) hA=>get_in (w:=w) (n:=d.mn) (A:=Am) (ws:=d.mw) cam (k:Int) hA HM.out (by omega) hM1
 rw [Int.toNat_natCast,ht.out] at HGE
 generalize unN x=un at *
 generalize unM x=um at *
 generalize unY x=uy at *
 clear hc hd HAE e1 e2 e3 hpl hsz hmn hM1 ok N1 N8 HN
 obtain ⟨c0,c1,c2,c3,c4,c5,c6,c7⟩:=id c8
 obtain ⟨f,p,z,an,aw,mn,mw,s⟩:=d
 unfold spv at HAD
 unfold hpv at HWO ⊢
 simp only at *
 have i0:(0:Int) ≤ (i:Int):=by omega
 have i1:(i:Int) < (l.length:Int):=by omega
 clear c8 hk
 have C4:Hid (w.cell? ⟨bb,off + i * 8 + 4,none⟩=_):=Lib.hid c4
 have CC:=Lib.hid c5
 have CD:=Lib.hid c6
 go_enter Tryz.func239,Tryz.ntmps239
 go_wp2_with fail
 go_at_call 159
 refine (HAD.out _ (ra.later bX) (rm.later bX)).mono ?_
 rintro e w1 ⟨rfl,hb_w1⟩
 obtain ⟨hc_w1,hf_w1⟩:=bcell hb_w1;have hz_w1_w_0:w.heap.size < w1.heap.size:=lY hb_w1.size;have hz_w1_w_1:w.heap.size + 1 < w1.heap.size:=lY hb_w1.size;have hs_w1:=hb_w1.size;(try simp only [zZ] at hs_w1)
 have m0:w1.cell? ⟨w.heap.size,0,none⟩=some (.slice A ws.length ca):=(hc_w1 _ _ lX).trans (by simp [go_sem])
 have m1:w1.cell? ⟨w.heap.size,1,none⟩=some (.int .i64 n):=(hc_w1 _ _ lX).trans (by simp [go_sem])
 have m2:w1.cell? ⟨w.heap.size,2,none⟩=some (.slice U nu cu):=(hc_w1 _ _ lX).trans (by simp [go_sem])
 have m3:w1.cell? ⟨w.heap.size,3,none⟩=some (.slice (some ⟨bb,off,none⟩) l.length cv):=(hc_w1 _ _ lX).trans (by simp [go_sem])
 have r0:w1.cell? ⟨w.heap.size + 1,0,none⟩=some (.int .u64 0):=(hc_w1 _ _ lX).trans (by simp [go_sem])
 have s0:w1.frozen? ⟨w.heap.size + 1,0,none⟩=false:=(hf_w1 _ _ lX).trans (by simp [go_sem])
 have r1:w1.cell? ⟨w.heap.size + 1,1,none⟩=some (.int .i64 0):=(hc_w1 _ _ lX).trans (by simp [go_sem])
 have s1:w1.frozen? ⟨w.heap.size + 1,1,none⟩=false:=(hf_w1 _ _ lX).trans (by simp [go_sem])
 have r2:w1.cell? ⟨w.heap.size + 1,2,none⟩=some (.int .u64 0):=(hc_w1 _ _ lX).trans (by simp [go_sem])
 have s2:w1.frozen? ⟨w.heap.size + 1,2,none⟩=false:=(hf_w1 _ _ lX).trans (by simp [go_sem])
 have r3:w1.cell? ⟨w.heap.size + 1,3,none⟩=some (.int .i64 0):=(hc_w1 _ _ lX).trans (by simp [go_sem])
 have s3:w1.frozen? ⟨w.heap.size + 1,3,none⟩=false:=(hf_w1 _ _ lX).trans (by simp [go_sem])
 have r4:w1.cell? ⟨w.heap.size + 1,4,none⟩=some (.int .i64 0):=(hc_w1 _ _ lX).trans (by simp [go_sem])
 have s4:w1.frozen? ⟨w.heap.size + 1,4,none⟩=false:=(hf_w1 _ _ lX).trans (by simp [go_sem])
 have r5:w1.cell? ⟨w.heap.size + 1,5,none⟩=some (.bool false):=(hc_w1 _ _ lX).trans (by simp [go_sem])
 have s5:w1.frozen? ⟨w.heap.size + 1,5,none⟩=false:=(hf_w1 _ _ lX).trans (by simp [go_sem])
 have R1:=Lib.hid (And.intro r0 (And.intro r1 (And.intro r2 (And.intro r3 (And.intro r4 (And.intro r5 (And.intro s0 (And.intro s1 (And.intro s2 (And.intro s3 (And.intro s4 s5)))))))))))
 clear r0 r1 r2 r3 r4 r5 s0 s1 s2 s3 s4 s5
 have hB1:Below w.heap.size w w1:=bX
 have hb_w1':=Lib.hid hB1
 clear c0 c1 c2 c3 c4 c5 c6 c7 hc_w1 hf_w1
 go_wp2_with fail
 go_at_call 102
 refine (HWO.out _ (hr.later hB1)).mono ?_
 rintro e w2 ⟨rfl,hb_w2⟩
 obtain ⟨hc_w2,hf_w2⟩:=bcell hb_w2;have hs_w2:=hb_w2.size;(try simp only [zZ] at hs_w2)
 have n0:=(hc_w2 w.heap.size 0 lX).trans m0
 have n1:=(hc_w2 w.heap.size 1 lX).trans m1
 have n2:=(hc_w2 w.heap.size 2 lX).trans m2
 have n3:=(hc_w2 w.heap.size 3 lX).trans m3
 have hB2:Below w.heap.size w w2:=bX
 clear m0 m1 m2 m3 hc_w2 hf_w2
 go_wp2_with fail
 go_at_call 253
 refine (HUN.out _).mono ?_
 rintro e w3 ⟨rfl,hb_w3⟩
 obtain ⟨hc_w3,hf_w3⟩:=bcell hb_w3;have hs_w3:=hb_w3.size;(try simp only [zZ] at hs_w3)
 have m0:=(hc_w3 w.heap.size 0 lX).trans n0
 have m1:=(hc_w3 w.heap.size 1 lX).trans n1
 have m2:=(hc_w3 w.heap.size 2 lX).trans n2
 have m3:=(hc_w3 w.heap.size 3 lX).trans n3
 have hB3:Below w.heap.size w w3:=bX
 have p0l:w.heap.size < w3.heap.size:=by omega
 have pbl:bb < w3.heap.size:=by omega
 have c5:w3.cell? ⟨bb,off + i * 8 + 5,none⟩=some (.int .i64 mn):=(hB3.cell (p:=⟨bb,_,none⟩) hbb).trans CC.out
 have c6:w3.cell? ⟨bb,off + i * 8 + 6,none⟩=some (.slice Am mw.length cam):=(hB3.cell (p:=⟨bb,_,none⟩) hbb).trans CD.out
 clear n0 n1 n2 n3 hc_w3 hf_w3
 go_wp2_with fail
 go_at_call 241
 refine (HGE.out _ (rm.later bX)).mono ?_
 rintro e w4 ⟨rfl,hb_w4⟩
 obtain ⟨hc_w4,hf_w4⟩:=bcell hb_w4;have hs_w4:=hb_w4.size;(try simp only [zZ] at hs_w4)
 have q0:w4.cell? ⟨w3.heap.size,0,none⟩=some (.int .i64 un):=(hc_w4 _ _ lX).trans (by simp [go_sem])
 have q1:w4.cell? ⟨w3.heap.size,1,none⟩=some (.int .u64 (um:Nat)):=(hc_w4 _ _ lX).trans (by simp [go_sem])
 clear hc_w4 hf_w4
 clear hB1 hB2 hB3
 have hB5:Below (w.heap.size + 2) w1 w4:=bX
 have hB4:Below w.heap.size w w4:=hb_w1'.out.trans (hB5.mono lX)
 obtain ⟨hr0,hr1,hr2,hr3,hr4,hr5,hs0,hs1,hs2,hs3,hs4,hs5⟩:=R1.out
 replace hr0:=((bcell hB5).1 (w.heap.size + 1) _ lX).trans hr0
 replace hs0:=((bcell hB5).2 (w.heap.size + 1) _ lX).trans hs0
 replace hr1:=((bcell hB5).1 (w.heap.size + 1) _ lX).trans hr1
 replace hs1:=((bcell hB5).2 (w.heap.size + 1) _ lX).trans hs1
 replace hr2:=((bcell hB5).1 (w.heap.size + 1) _ lX).trans hr2
 replace hs2:=((bcell hB5).2 (w.heap.size + 1) _ lX).trans hs2
 replace hr3:=((bcell hB5).1 (w.heap.size + 1) _ lX).trans hr3
 replace hs3:=((bcell hB5).2 (w.heap.size + 1) _ lX).trans hs3
 replace hr4:=((bcell hB5).1 (w.heap.size + 1) _ lX).trans hr4
 replace hs4:=((bcell hB5).2 (w.heap.size + 1) _ lX).trans hs4
 replace hr5:=((bcell hB5).1 (w.heap.size + 1) _ lX).trans hr5
 replace hs5:=((bcell hB5).2 (w.heap.size + 1) _ lX).trans hs5
 clear hb_w1 hb_w2 hb_w3 hb_w4 m0 m1 m2 m3 c5 c6
 go_wp2
 refine bodyPost_ret (res_ob (g:=w.heap.size + 1) (v0:=.int .u64 a) (v1:=.int .i64 un) (v2:=.int .u64 um) (v3:=.int .i64 i) (v4:=.int .i64 k) (v5:=.bool t) rfl rfl ?_ ?_ ?_ ?_ ?_ ?_) rfl ?_
 ·simp [go_sem,hr0]
 ·simp [go_sem,hr1]
 ·simp [go_sem,hr2]
 ·simp [go_sem,hr3]
 ·simp [go_sem,hr4]
 ·simp [go_sem,hr5]
 ·refine ⟨rfl,?_⟩
  iterate 6 (refine Below.setCell ?_ lX _)
  exact hB4
end
end Go.Proofs.YtafpkaifaccehaaGreatDoor
