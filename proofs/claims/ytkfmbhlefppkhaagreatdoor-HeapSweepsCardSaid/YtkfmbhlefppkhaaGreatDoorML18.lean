/- Parts of the proof. -/
import Derived.Test.YtkfmbhlefppkhaaGreatDoorML17
import Derived.Deep.AppendLies
import Derived.OwnWalk
import Derived.BigQuiet
set_option maxRecDepth 100000
set_option linter.unusedVariables false
set_option linter.unusedSimpArgs false
namespace Go.Proofs.YtkfmbhlefppkhaaGreatDoor
open Go.RowKit
theorem res_arena1 {fn:Func} {p:Tmp} (h:fn.results=#[.cell p 24]) {tmps:Array Value} {w:World} {g:Nat} {v0:Value} (hp:tmps.getD p undef=.pointer (some ⟨g,0,none⟩))
  (h0:w.cell? ⟨g,0,none⟩=some v0):(results fn tmps).run Tryz.prog w=.ok (.agg #[v0]) w:=by
 have hp2:tmps[p]?.getD undef=.pointer (some ⟨g,0,none⟩):=by rw [← hp];simp
 simp only [results,h]
 simp [go_sem,Result.andThen,h0,asAddr,hp2]
def CopiedA (w:World) (ws:List Nat) (e:Ending) (w':World):Prop:=
 ∃ A cap,e=.returned (.agg #[.slice A ws.length cap])∧(Own w' w.heap.size A ws∧ws.length ≤ cap)∧Below w.heap.size w w'
theorem cap_of_owns {w:World} {B t s n cap g:Nat} {xs:List Value} (h:w.ownsRow B t s (.slice (some ⟨g,0,none⟩) n cap) n xs):n ≤ cap:=by
 obtain ⟨_,⟨h1,h2⟩ | ⟨g',cap',cur,e,_,_,h3,_⟩⟩:=h
 ·injection h1 with h1;cases h1
 ·injection e with e1 e2 e3
  omega
theorem acopy_nil (A:Option Addr) (cap:Nat) (w:World) :
  Calls Tryz.prog 70 #[.agg #[.slice A 0 cap]] w fun e w'=>CopiedA w [] e w':=by
 cases A
 all_goals
  go_enter Tryz.func70,Tryz.ntmps70
  go_wp2
  exact bodyPost_ret (res_arena1 rfl rfl (g:=w.heap.size + 1) (by simp [go_sem] <;> rfl)) rfl ⟨_,0,rfl,⟨⟨fun x hx=>by simp at hx,fun h=>by simp at h⟩,Nat.le_refl _⟩,bX⟩
theorem acopy_some (b off cap:Nat) (ws:List Nat) (w:World) (hr:Row w w.heap.size (some ⟨b,off,none⟩) ws) (h0:0 < ws.length) (hm:ws.length ≤ 17592186044416) :
  Calls Tryz.prog 70 #[.agg #[.slice (some ⟨b,off,none⟩) ws.length cap]] w fun e w'=>CopiedA w ws e w':=by
 obtain ⟨i0,hi,hz0,hz1,hz2⟩:=info_parts info_u64
 go_enter Tryz.func70,Tryz.ntmps70
 go_wp2_with (at_builtin;refine wpList_append_lies _ rfl (.tmp 3) (.tmp 5) 22 rfl (w.heap.size + 2) 32 i0 _ 1 8 Tryz.underlying22 hi hz0 hz1 hz2 rfl (by omega) (.slice (some ⟨w.heap.size + 1 + 1,0,none⟩) 0 0) 0 [] (by simp [Act.eval,Act.put]) (own_empty w _ _ _ rfl) ⟨b,off,none⟩ ws.length cap (vals ws) (by simp [Act.eval,Act.put]) (by simp [vals]) (hr.src2 bX) (vals_one ws) h0 (by unfold maxLen;omega) (by omega) (by simp) _ rfl ?_;intro g cap2 w2 hown2 hg2 hat2 hlt2;simp only [Nat.zero_add,List.nil_append] at hown2;have hb_w2:Below (w.heap.size + 2) _ w2:=(Below.refl _ _).grown hg2 lX (fun k hk=>(by simp [Value.ownBlock] at hk;omega));obtain ⟨hc_w2,hf_w2⟩:=bcell hb_w2;have hz_w2_w_0:w.heap.size < w2.heap.size:=lY hb_w2.size;have hz_w2_w_1:w.heap.size + 1 < w2.heap.size:=lY hb_w2.size)
 all_goals
  have t2:One w2 (w.heap.size + 1) (.slice none 0 0):=⟨(hc_w2 _ _ lX).trans (by simp [go_sem]),(hf_w2 _ _ lX).trans (by simp [go_sem])⟩
  have ho:=Own.of_owns hown2 hr.words
  exact bodyPost_ret (res_arena1 rfl rfl (t2.set_ _).c0) rfl ⟨_,cap2,rfl,⟨(ho.far (.inl lX) _).mono lX,cap_of_owns hown2⟩,bX⟩
section
variable {A:Option Addr} {ws:List Nat} {w:World} (cap:Nat)
theorem acopy_any (hr:Row w w.heap.size A ws) (hm:ws.length ≤ 17592186044416) :
  Calls Tryz.prog 70 #[.agg #[.slice A ws.length cap]] w fun e w'=>CopiedA w ws e w':=by
 by_cases h0:0 < ws.length
 ·obtain ⟨b,off,rfl,_,_⟩:=hr.at_ h0
  exact acopy_some b off cap ws w hr h0 hm
 ·obtain rfl:ws=[]:=List.eq_nil_of_length_eq_zero (by omega)
  exact acopy_nil A cap w
theorem athere_any (len a n:Nat) (b:Bool) (hl:len ≤ 9223372036854775807) (ha:a < W64) (hn:n < W64) (hb:(b=true∧a + n ≤ len) ∨ (b=false∧¬ a + n ≤ len)) :
  Calls Tryz.prog 197 #[.agg #[.slice A len cap],.int .u64 (a:Nat),.int .u64 (n:Nat)] w fun e w'=>e=.returned (.bool b)∧Below w.heap.size w w':=by
 unfold W64 at ha hn
 by_cases h1:n ≤ len
 ·by_cases h2:a ≤ len - n
  ·obtain rfl:b=true:=by
    rcases hb with hb | hb
    ·exact hb.1
    ·omega
   clear hb
   have hd1:decide ((n:Int) ≤ (len:Int))=true:=by simpa using h1
   have hd2:decide ((a:Int) ≤ (len:Int) - n)=true:=by simp;omega
   go_enter Tryz.func197,Tryz.ntmps197
   go_wp2
   go_ret
   exact ⟨rfl,bX⟩
  ·obtain rfl:b=false:=by
    rcases hb with hb | hb
    ·omega
    ·exact hb.1
   clear hb
   have hd1:decide ((n:Int) ≤ (len:Int))=true:=by simpa using h1
   have hd2:decide ((a:Int) ≤ (len:Int) - n)=false:=by simp;omega
   go_enter Tryz.func197,Tryz.ntmps197
   go_wp2
   go_ret
   exact ⟨rfl,bX⟩
 ·obtain rfl:b=false:=by
   rcases hb with hb | hb
   ·omega
   ·exact hb.1
  clear hb
  have hd1:decide ((n:Int) ≤ (len:Int))=false:=by simp;omega
  go_enter Tryz.func197,Tryz.ntmps197
  go_wp2
  go_ret
  exact ⟨rfl,bX⟩
end
theorem asame_ok (ws:List Nat) (hm:ws.length ≤ maxLen) (w:World) (A A':Option Addr) (cap cap':Nat) (hr:Row w w.heap.size A ws) (hr':Row w w.heap.size A' ws) :
  Calls Tryz.prog 92 #[.agg #[.slice A ws.length cap],.agg #[.slice A' ws.length cap']] w fun e w'=>e=.returned (.bool true)∧Below w.heap.size w w':=by
 unfold maxLen at hm
 have hd2:((ws.length:Int) != (ws.length:Int))=false:=by simp
 go_enter Tryz.func92,Tryz.ntmps92
 go_wp2
 go_loopw [16] (fun i wr=>∃ k m:Nat,i=.int .i64 k∧k ≤ ws.length∧wr=((w.alloc (Obj.cells #[Value.slice A ws.length cap] 24)).alloc (Obj.cells #[Value.slice A' ws.length cap'] 24)).drewN m)
  (fun i _=>ws.length - (intOf i).toNat)
 case atStart=>exact ⟨0,0,rfl,Nat.zero_le _,rfl⟩
 case round=>
  obtain ⟨k,m,rfl,hk,rfl⟩:=hrel
  by_cases hlt:k < ws.length
  ·obtain ⟨b,off,rfl,hb,hc⟩:=hr.at_ (by omega)
   obtain ⟨b',off',rfl,hb',hc'⟩:=hr'.at_ (by omega)
   have hck:=hc k hlt
   have hck':=hc' k hlt
   obtain ⟨x,hx⟩:=named ws k
   rw [hx.out] at hck hck'
   have hd3:((x:Int) != (x:Int))=false:=by simp
   clear hc hc'
   go_wp2
   go_quiet (fail)
   go_wp2
   go_roundw
   case rel=>exact ⟨k + 1,_,by go_num,by omega,rfl⟩
   case measure=>simp [intOf];omega
  ·go_wp2
   go_ret
   exact ⟨rfl,bX⟩
section
variable {n:Int} {A:Option Addr} {ws:List Nat} {w:World} (cap:Nat)
theorem rpcopy_any (hr:Row w w.heap.size A ws) (hm:ws.length ≤ 17592186044416) :
  Calls Tryz.prog 71 #[.agg #[.int .i64 n,.slice A ws.length cap]] w fun e w'=>Copied w n ws e w':=by
 go_enter Tryz.func71,Tryz.ntmps71
 go_wp2_with (go_at_call 122;refine (copy_any _ _ (hr.later bX) hm).mono ?_;rintro e w1 ⟨A1,cap1,rfl,ho1,hb_w1⟩;obtain ⟨hc_w1,hf_w1⟩:=bcell hb_w1;have hz_w1_w_0:w.heap.size < w1.heap.size:=lY hb_w1.size;have hz_w1_w_1:w.heap.size + 1 < w1.heap.size:=lY hb_w1.size)
 have k0:w1.cell? ⟨w.heap.size + 1,0,none⟩=_:=(hc_w1 _ _ lX).trans (by simp [go_sem];rfl)
 have k1:w1.cell? ⟨w.heap.size + 1,1,none⟩=_:=(hc_w1 _ _ lX).trans (by simp [go_sem];rfl)
 exact bodyPost_ret (res_pages1 rfl rfl (set_two _ _ k0 k1).1 (set_two _ _ k0 k1).2) rfl ⟨A1,cap1,rfl,(ho1.two (g:=w.heap.size + 1) lX).mono lX,bX⟩
theorem rpsame_ok (hm:ws.length ≤ maxLen) (A':Option Addr) (cap':Nat) (hr:Row w w.heap.size A ws) (hr':Row w w.heap.size A' ws) :
  Calls Tryz.prog 93 #[.agg #[.int .i64 n,.slice A ws.length cap],.agg #[.int .i64 n,.slice A' ws.length cap']] w fun e w'=>e=.returned (.bool true)∧Below w.heap.size w w':=by
 go_enter Tryz.func93,Tryz.ntmps93
 go_wp2_with fail
 go_at_call 130
 refine (same_ok n ws hm _ _ _ _ _ (hr.later bX) (hr'.later bX)).mono ?_
 rintro e w1 ⟨rfl,hb_w1⟩
 obtain ⟨hc_w1,hf_w1⟩:=bcell hb_w1;have hz_w1_w_0:w.heap.size < w1.heap.size:=lY hb_w1.size;have hz_w1_w_1:w.heap.size + 1 < w1.heap.size:=lY hb_w1.size;have hs_w1:=hb_w1.size;(try simp only [zZ] at hs_w1)
 go_wp2
 go_ret
 exact ⟨rfl,bX⟩
theorem FitAt.succ {ws : List Nat} {a m : Nat} (h : FitAt ws a m) (h' : tb ws (a + m) = false) : FitAt ws a (m + 1) := fun j h1 h2 => by
  by_cases e : j = a + m
  · rw [e]; exact h'
  · exact h j h1 (by omega)
def FitE (ws:List Nat) (a:Nat) (c:Int) (e:Ending):Prop:=∃ b:Bool,e=.returned (.bool b)∧(b=true ↔ FitAt ws a c.toNat)
theorem rpfree_any (a:Nat) (c:Int) (L:Nat) (hL:ws.length=L) (hr:Row w w.heap.size A ws) (h:Right n ws) (h1:1 ≤ c) (h2:a + c ≤ n) :
  Calls Tryz.prog 167 #[.agg #[.int .i64 n,.slice A L cap],.int .i64 a,.int .i64 c] w fun e w'=>FitE ws a c e∧Below w.heap.size w w':=by
 subst hL
 have hn:=h.1
 have hn2:=h.2.1
 have hl:=h.long
 have hl2:ws.length ≤ 64:=right_len h
 have hl3:ws.length ≤ 17592186044416:=by omega
 have hR:=Lib.hid h
 clear h
 go_enter Tryz.func167,Tryz.ntmps167
 go_wp2
 go_loopw [7] (fun i wr=>∃ k:Nat,i=.int .i64 ((a:Int) + (k:Nat))∧(k:Int) ≤ c∧FitAt ws a k∧wr.cell? ⟨w.heap.size,0,none⟩=some (.int .i64 n)∧wr.cell? ⟨w.heap.size,1,none⟩=some (.slice A ws.length cap)∧w.heap.size + 1 ≤ wr.heap.size∧Below w.heap.size w wr) (fun i _=>(a + c - intOf i).toNat)
 case atStart=>exact ⟨0,by go_num,by omega,FitAt.zero _ _,by simp [go_sem],by simp [go_sem],lX,bX⟩
 case round=>
  obtain ⟨k,rfl,hk,hF,q0,q1,hsz,hb_wr⟩:=hrel
  by_cases hlt:(k:Int) < c
  ·go_wp2_with fail
   go_at_call 107
   refine (is_any ((a:Int) + (k:Nat)) n cap (hr.later hb_wr) (by omega) (by omega) hl2).mono ?_
   rintro e w2 ⟨rfl,hb_w2⟩
   obtain ⟨hc_w2,hf_w2⟩:=bcell hb_w2
   rw [show ((a:Int) + (k:Nat)).toNat=a + k by omega]
   cases ht:tb ws (a + k)
   ·have HT:=Lib.hid ht
    clear ht
    go_wp2
    go_roundw
    case rel=>exact ⟨k + 1,by go_num,by omega,hF.succ HT.out,(hc_w2 _ _ lX).trans q0,(hc_w2 _ _ lX).trans q1,Nat.le_trans hsz hb_w2.size,bX⟩
    case measure=>simp [intOf];omega
   ·have HT:=Lib.hid ht
    clear ht
    go_wp2
    go_ret
    refine ⟨⟨false,rfl,?_⟩,bX⟩
    simp only [Bool.false_eq_true,false_iff]
    intro hf
    have:=hf (a + k) (by omega) (by omega)
    rw [HT.out] at this
    cases this
  ·have HK:Hid (c.toNat=k):=Lib.hid (by omega)
   have HF:=Lib.hid hF
   clear hF
   go_wp2
   go_ret
   exact ⟨⟨true,rfl,by rw [HK.out];exact ⟨fun _=>HF.out,fun _=>rfl⟩⟩,bX⟩
set_option maxHeartbeats 2000000 in
theorem rgive_in (a:Nat) (c:Int) (hr:Row w w.heap.size A ws) (h:Right n ws) (h1:1 ≤ c) (h2:c ≤ n - a) :
  Calls Tryz.prog 120 #[.agg #[.int .i64 n,.slice A ws.length cap],.int .i64 a,.int .i64 c] w fun e w'=>((∀ j:Nat,(a:Int) ≤ j → (j:Int) < a + c → tb ws j=true)∧Fresh w n (fillW ws a c.toNat false) 0 e w') ∨ ((∃ j:Nat,(a:Int) ≤ j∧(j:Int) < a + c∧tb ws j=false)∧Fresh w n ws 5 e w'):=by
 have hn:=h.1
 have hn2:=h.2.1
 have hl:=h.long
 have hl2:ws.length ≤ 64:=right_len h
 have hl3:ws.length ≤ 17592186044416:=by omega
 have hR:=Lib.hid h
 clear h
 have hd0:decide ((a:Int) < 0)=false:=decide_eq_false (by omega)
 have hd1:decide (c < 1)=false:=by simpa using h1
 have hd2:decide (n < c)=false:=by simp;omega
 have hd3:decide (n - c < (a:Int))=false:=by simp;omega
 go_enter Tryz.func120,Tryz.ntmps120
 go_wp2_with (first
   | (go_at_call 166;refine (rpcheck_ok _ (hr.later bX) hR.out).mono ?_;rintro e w1 ⟨rfl,hb_w1⟩;obtain ⟨hc_w1,hf_w1⟩:=bcell hb_w1;have hz_w1_w_0:w.heap.size < w1.heap.size:=lY hb_w1.size;have hz_w1_w_1:w.heap.size + 1 < w1.heap.size:=lY hb_w1.size)
   | (go_at_call 71;refine (rpcopy_any _ (hr.later (w':=w1) bX) hl3).mono ?_;rintro e w2 ⟨A1,cap1,rfl,ho2,hb_w2⟩;obtain ⟨hc_w2,hf_w2⟩:=bcell hb_w2;have hz_w2_w_0:w.heap.size < w2.heap.size:=lY hb_w2.size;have hz_w2_w_1:w.heap.size + 1 < w2.heap.size:=lY hb_w2.size;have q0:w2.cell? ⟨w.heap.size,0,none⟩=some (.int .i64 n):=((hc_w2 _ _ lX).trans ((hc_w1 _ _ lX).trans (by simp [go_sem])));have q1:w2.cell? ⟨w.heap.size,1,none⟩=some (.slice A ws.length cap):=((hc_w2 _ _ lX).trans ((hc_w1 _ _ lX).trans (by simp [go_sem])));have s0:∀ V,(w2.setCell ⟨w.heap.size,0,none⟩ V).cell? ⟨w.heap.size,0,none⟩=some V:=(fun V=>World.cell?_setCell_same _ _ _ q0);have s1:∀ V V',((w2.setCell ⟨w.heap.size,0,none⟩ V).setCell ⟨w.heap.size,1,none⟩ V').cell? ⟨w.heap.size,1,none⟩=some V':=(fun V V'=>(set_two V V' q0 q1).2);have s2:∀ V V',((w2.setCell ⟨w.heap.size,0,none⟩ V).setCell ⟨w.heap.size,1,none⟩ V').cell? ⟨w.heap.size,0,none⟩=some V:=(fun V V'=>(set_two V V' q0 q1).1);have k0:w2.cell? ⟨w.heap.size + 1,0,none⟩=some (.int .i64 0):=((hc_w2 _ _ lX).trans ((hc_w1 _ _ lX).trans (by simp [go_sem])));have k1:w2.cell? ⟨w.heap.size + 1,1,none⟩=some (.slice none 0 0):=((hc_w2 _ _ lX).trans ((hc_w1 _ _ lX).trans (by simp [go_sem])))))
 simp only [zA] at hb_w1
 have t0:Two w2 w.heap.size (.int .i64 n) (.slice A ws.length cap):=(((Two.new w _ _ _).old lX _).below hb_w1 lX).below hb_w2 lX
 have t1:Two w2 (w.heap.size + 1) (.int .i64 0) (.slice none 0 0):=((by have h:=Two.new (w.alloc (.cells #[.int .i64 n,.slice A ws.length cap] 28)) (.int .i64 0) (.slice none 0 0) 28;rw [World.size_alloc] at h;exact h:Two _ (w.heap.size + 1) _ _).below hb_w1 lX).below hb_w2 lX
 go_loopw [8] (fun i wr=>∃ k:Nat,i=.int .i64 (k:Nat)∧(k:Int) ≤ c∧(∀ j:Nat,j < k → tb ws (a + j)=true)∧Own wr (w.heap.size + 2) A1 ws∧Two wr w.heap.size (.int .i64 n) (.slice A1 ws.length cap1) ∧
   Two wr (w.heap.size + 1) (.int .i64 0) (.slice none 0 0)∧w.heap.size + 2 ≤ wr.heap.size∧Below w.heap.size w wr) (fun i _=>(c - intOf i).toNat)
 case atStart=>exact ⟨0,rfl,by omega,fun j hj=>by omega,((ho2.mono lX).two lX),t0.set_ _ _,t1.far lX _ _,lX,bX⟩
 case round=>
  obtain ⟨k,rfl,hk,hN,hO,hT0,hT1,hsz,hb_wr⟩:=hrel
  obtain ⟨q0',q1',hf0⟩:=id hT0
  have HN:=Lib.hid hN
  clear hN
  by_cases hlt:(k:Int) < c
  ·go_wp2_with fail
   go_at_call 107
   refine (is_any ((a:Int) + (k:Nat)) n cap1 hO.row (by omega) (by omega) hl2).mono ?_
   rintro e w3 ⟨rfl,hb_w3⟩
   obtain ⟨hc_w3,hf_w3⟩:=bcell hb_w3
   have hs_w3:=hb_w3.size
   rw [show ((a:Int) + (k:Nat)).toNat=a + k by omega]
   have T0:=hT0.below hb_w3 (by omega)
   have T1:=hT1.below hb_w3 (by omega)
   have O3:=hO.later hb_w3
   clear hT0 hT1 hO q0' q1' hf0
   obtain ⟨x0,x1,hx⟩:=id T0
   obtain ⟨z0,z1,hz⟩:=id T1
   cases ht:tb ws (a + k)
   ·have HT:=Lib.hid ht
    clear ht
    go_wp2
    exact bodyPost_ret (res_pages2 rfl rfl (T1.set_ _ _).c0 (T1.set_ _ _).c1) rfl (.inr ⟨⟨a + k,by omega,by omega,HT.out⟩,A1,cap1,rfl,(O3.two (g:=w.heap.size + 1) lX).mono lX,bX⟩)
   ·have HT:=Lib.hid ht
    clear ht
    go_wp2
    go_roundw
    case rel=>exact ⟨k + 1,by go_num,by omega,fun j hj=>by
      by_cases e:j=k
      ·rw [e];exact HT.out
      ·exact HN.out j (by omega),O3,T0,T1,by omega,bX⟩
    case measure=>simp [intOf];omega
  ·go_wp2_with fail
   go_at_call 168
   refine (rfill_in cap1 (a:Nat) c false hO.row hR.out (by omega) (by omega) (by omega)).mono ?_
   rintro e w4 ⟨A4,cap4,rfl,ho4,hb_w4⟩
   obtain ⟨hc_w4,hf_w4⟩:=bcell hb_w4
   have hs_w4:=hb_w4.size
   have U0:=hT0.below hb_w4 (by omega)
   have U1:=hT1.below hb_w4 (by omega)
   obtain ⟨y0,y1,hy⟩:=id U0
   obtain ⟨z0,z1,hz⟩:=id U1
   have s0':∀ V,(w4.setCell ⟨w.heap.size,0,none⟩ V).cell? ⟨w.heap.size,0,none⟩=some V:=(fun V=>World.cell?_setCell_same _ _ _ y0)
   have s1':∀ V V',((w4.setCell ⟨w.heap.size,0,none⟩ V).setCell ⟨w.heap.size,1,none⟩ V').cell? ⟨w.heap.size,1,none⟩=some V':=(fun V V'=>(set_two V V' y0 y1).2)
   have s2':∀ V V',((w4.setCell ⟨w.heap.size,0,none⟩ V).setCell ⟨w.heap.size,1,none⟩ V').cell? ⟨w.heap.size,0,none⟩=some V:=(fun V V'=>(set_two V V' y0 y1).1)
   go_wp2
   have F:=(U1.far (g':=w.heap.size) lX (.int .i64 n) (.slice A4 (fillW ws a c.toNat false).length cap4)).set_ (.int .i64 n) (.slice A4 (fillW ws a c.toNat false).length cap4)
   refine bodyPost_ret (res_pages2 rfl rfl F.c0 F.c1) rfl (.inl ⟨fun j j1 j2=>?_,A4,cap4,rfl,?_,bX⟩)
   ·have:=HN.out (j - a) (by omega)
    rwa [show a + (j - a)=j by omega] at this
   ·exact ((ho4.two (g:=w.heap.size) lX).two (g:=w.heap.size + 1) lX).mono lX
end
structure HIn (w:World) (b:Nat) (v:Hv) (h:Hp):Prop where
 box:B4 w b (.slice v.A h.ws.length v.ca) (.int .i64 h.n) (.slice v.U h.us.length v.cu) (.slice v.V h.l.length v.cv)
 m:HM w w.heap.size v h
theorem HIn.lt {w:World} {b:Nat} {v:Hv} {h:Hp} (x:HIn w b v h):b < w.heap.size:=x.box.lt
theorem HIn.later {w w':World} {b:Nat} {v:Hv} {h:Hp} (x:HIn w b v h) (hb:Below w.heap.size w w'):HIn w' b v h:=⟨x.box.later hb,x.m.later hb⟩
theorem HIn.alloc {w:World} {b:Nat} {v:Hv} {h:Hp} (x:HIn w b v h) (o:Obj):HIn (w.alloc o) b v h:=x.later ((Below.refl _ _).alloc (Nat.le_refl _) _)
theorem HIn.new {w:World} {v:Hv} {h:Hp} (m:HM w w.heap.size v h) (t:TypeId):HIn (w.alloc (.cells #[.slice v.A h.ws.length v.ca,.int .i64 h.n,.slice v.U h.us.length v.cu,.slice v.V h.l.length v.cv] t)) w.heap.size v h:=
 ⟨B4.new _ _ _ _ _ _,m.later ((Below.refl _ _).alloc (Nat.le_refl _) _)⟩
structure Short (h:Hp):Prop where
 l:h.l.length ≤ 1466015503658
 ws:h.ws.length ≤ 17592186044416
 us:h.us.length ≤ 17592186044416
 each:WordsLe h.l
theorem OkH.short {h:Hp} (hk:OkH h):Short h:=by
 have h1:=hk.framed.pages.2.2.1
 have h2:=hk.framed.pages.2.1
 refine ⟨by have:=hk.framed.spans.1;omega,hk.lens.2,by omega,fun d hd=>?_⟩
 obtain ⟨i,hi,rfl⟩:=List.getElem_of_mem hd
 have ok:=hk.framed.spans.at_ hi
 have e:nth h.l i=h.l[i]:=by unfold nth;rw [List.getD_eq_getElem?_getD,List.getElem?_eq_getElem hi];rfl
 rw [e] at ok
 have a1:=ok.aw
 have a2:=ok.mw
 omega
section
variable {w:World} {v v':Hv} {h:Hp}
set_option maxHeartbeats 1000000 in
theorem hsame_any (m:HM w w.heap.size v h) (m':HM w w.heap.size v' h) (hs:Short h) :
  Calls Tryz.prog 20 #[hpV v h,hpV v' h] w fun e w'=>e=.returned (.bool true)∧Below w.heap.size w w':=by
 have HA:=Lib.hid fun (w:World) h1 h2=>asame_ok h.ws (by have:=hs.ws;unfold maxLen;omega) w v.A v'.A v.ca v'.ca h1 h2
 have HU:=Lib.hid fun (w:World) h1 h2=>rpsame_ok (n:=h.n) (A:=v.U) (ws:=h.us) (w:=w) v.cu (by have:=hs.us;unfold maxLen;omega) v'.U v'.cu h1 h2
 have HV:=Lib.hid fun (w:World) h1 h2=>xsameL_self (w:=w) (A:=v.V) (C:=v'.V) (l:=h.l) v.cv v'.cv h1 h2 (by have:=hs.l;omega) hs.each
 have hx:=HIn.new m 31
 have hx1:=hx.alloc (.cells #[.slice v'.A h.ws.length v'.ca,.int .i64 h.n,.slice v'.U h.us.length v'.cu,.slice v'.V h.l.length v'.cv] 31)
 have hm1:=m'.later ((Below.refl _ _).alloc (Nat.le_refl _) (.cells #[.slice v.A h.ws.length v.ca,.int .i64 h.n,.slice v.U h.us.length v.cu,.slice v.V h.l.length v.cv] 31))
 have hy1:=HIn.new hm1 31
 rw [World.size_alloc] at hy1
 clear hx hm1
 unfold hpV hpv
 go_enter Tryz.func20,Tryz.ntmps20
 go_wp2_with fail
 go_at_call 92
 refine (HA.out _ (by exact hx1.m.a) (by exact hy1.m.a)).mono ?_
 rintro e w1 ⟨rfl,hb_w1⟩
 have b1:Below w.heap.size w w1:=bX
 have hx2:=hx1.later hb_w1
 have hy2:=hy1.later hb_w1
 obtain ⟨c0,c1,c2,c3,f0,f1,f2,f3⟩:=id hx2.box
 obtain ⟨d0,d1,d2,d3,g0,g1,g2,g3⟩:=id hy2.box
 go_wp2_with fail
 go_at_call 93
 refine (HU.out _ (by exact hx2.m.u) (by exact hy2.m.u)).mono ?_
 rintro e w2 ⟨rfl,hb_w2⟩
 have b2:Below w.heap.size w w2:=b1.trans (hb_w2.mono b1.size)
 have hx3:=hx2.later hb_w2
 have hy3:=hy2.later hb_w2
 clear c0 c1 c2 c3 f0 f1 f2 f3 d0 d1 d2 d3 g0 g1 g2 g3
 obtain ⟨c0,c1,c2,c3,f0,f1,f2,f3⟩:=id hx3.box
 obtain ⟨d0,d1,d2,d3,g0,g1,g2,g3⟩:=id hy3.box
 go_wp2_with fail
 go_at_call 94
 refine (HV.out _ (by exact hx3.m.v) (by exact hy3.m.v)).mono ?_
 rintro e w3 ⟨rfl,hb_w3⟩
 have b3:Below w.heap.size w w3:=b2.trans (hb_w3.mono b2.size)
 go_wp2
 go_ret
 exact ⟨rfl,b3⟩
end
theorem hsameaddrs_any {w:World} {A C:Option Addr} {t:List Nat} (ca cc:Nat) (hl:t.length ≤ 17592186044416) (hr:Row w w.heap.size A t) (hq:Row w w.heap.size C t) :
  Calls Tryz.prog 37 #[.slice A t.length ca,.slice C t.length cc] w fun e w'=>e=.returned (.bool true)∧Below w.heap.size w w':=by
 have HA:=Lib.hid fun (w:World) h1 h2=>asame_ok t (by unfold maxLen;omega) w A C ca cc h1 h2
 go_enter Tryz.func37,Tryz.ntmps37
 go_wp2_with fail
 go_at_call 92
 refine (HA.out _ (hr.later bX) (hq.later bX)).mono ?_
 rintro e w1 ⟨rfl,hb_w1⟩
 have b1:Below w.heap.size w w1:=bX
 go_wp2
 go_ret
 exact ⟨rfl,b1⟩
theorem addrs_len {h:Hp} (hk:OkH h):(addrs (cursH h)).length ≤ 2048:=by
 unfold addrs
 rw [List.length_map]
 exact cursH_len hk.framed.spans
theorem flatX_app (a b:List Ob):flatX (a ++ b)=flatX a ++ flatX b:=by unfold flatX;rw [List.flatMap_append]
theorem flatX_one (o:Ob):flatX [o]=cellsX o:=by unfold flatX;simp
def HdS (ws:List Nat) (d:Sd) (K:Nat):Prop:=∀ k,k < K → tb d.aw k=true → Un (ws.getD (slA d k) 0)∧fitsB (unN (ws.getD (slA d k) 0)) d=true
theorem HdS.step {ws:List Nat} {d:Sd} {K:Nat} (h:HdS ws d K) (hk:tb d.aw K=true → Un (ws.getD (slA d K) 0)∧fitsB (unN (ws.getD (slA d K) 0)) d=true):HdS ws d (K + 1):=fun k hk2=>by
 by_cases e:k=K
 ·rw [e];exact hk
 ·exact h k (by omega)
def obsB:Bool → Hp → List Ob
 | true,h=>obsH h
 | false,_=>[]
structure AllI (w wr:World) (v:Hv) (h:Hp) (A:Option Addr) (cap:Nat) (os:List Ob):Prop where
 box:HbV wr w.heap.size v h
 own:wr.ownsRow (w.heap.size + 1) 156 6 (.slice A os.length cap) os.length (flatX os)
 sz:w.heap.size + 1 ≤ wr.heap.size
 bel:Below w.heap.size w wr
theorem AllI.later {w wr w':World} {v:Hv} {h:Hp} {A:Option Addr} {cap:Nat} {os:List Ob} (a:AllI w wr v h A cap os) (hb:Below wr.heap.size wr w'):AllI w w' v h A cap os:=
 ⟨Hb.later a.box hb,owns_laterN a.own hb,Nat.le_trans a.sz hb.size,a.bel.trans (hb.mono (by have:=a.sz;omega))⟩
theorem AllI.blk {w wr:World} {v:Hv} {h:Hp} {A:Option Addr} {cap:Nat} {os:List Ob} (a:AllI w wr v h A cap os):∀ q,(A.map fun a=>a.block)=some q → w.heap.size + 1 ≤ q∧q < wr.heap.size:=fun q hq=>a.own.lt q (by cases A with | none=>cases hq | some a=>exact hq)
structure AllJ (w wr:World) (v:Hv) (h:Hp) (A:Option Addr) (cap:Nat) (os:List Ob) (bx:Nat) (d:Sd) (Aa:Option Addr) (ca:Nat) (Am:Option Addr) (cm:Nat):Prop where
 i:AllI w wr v h A cap os
 sp:Sp8 wr bx 0 d Aa ca Am cm
 far:(A.map fun a=>a.block) ≠ some bx
 lo:w.heap.size + 1 ≤ bx
theorem AllJ.later {w wr w':World} {v:Hv} {h:Hp} {A:Option Addr} {cap bx ca cm:Nat} {os:List Ob} {d:Sd} {Aa Am:Option Addr} (a:AllJ w wr v h A cap os bx d Aa ca Am cm) (hb:Below wr.heap.size wr w'):AllJ w w' v h A cap os bx d Aa ca Am cm:=
 ⟨a.i.later hb,a.sp.later hb,a.far,a.lo⟩
theorem AllI.span {w wr:World} {v:Hv} {h:Hp} {A:Option Addr} {cap:Nat} {os:List Ob} (a:AllI w wr v h A cap os) (d:Sd) (Aa:Option Addr) (ca:Nat) (Am:Option Addr) (cm:Nat) (t:TypeId) :
  AllJ w (wr.alloc (.cells #[.int .i64 d.f,.int .i64 d.p,.int .i64 d.z,.int .i64 d.an,.slice Aa d.aw.length ca,.int .i64 d.mn,.slice Am d.mw.length cm,.bool d.s] t)) v h A cap os wr.heap.size d Aa ca Am cm:=
 ⟨a.later (Below.alloc (Below.refl _ _) (Nat.le_refl _) _),Sp8.new wr d Aa ca Am cm t,fun e=>by have:=(a.blk _ e).2;omega,a.sz⟩
theorem Sp8.grown {w w':World} {g o ca cm:Nat} {d:Sd} {A M:Option Addr} {row:Option Nat} (h:Sp8 w g o d A ca M cm) (hg:w.grownBy w' row) (hne:row ≠ some g):Sp8 w' g o d A ca M cm:=by
 have k:∀ i,w'.cell? ⟨g,i,none⟩=w.cell? ⟨g,i,none⟩:=fun i=>World.cell?_of_block (hg.block g h.lt (fun e=>hne e.symm))
 exact ⟨(k _).trans h.c0,(k _).trans h.c1,(k _).trans h.c2,(k _).trans h.c3,(k _).trans h.c4,(k _).trans h.c5,(k _).trans h.c6,(k _).trans h.c7⟩
theorem AllJ.next {w wr W w9:World} {v:Hv} {h:Hp} {A A9:Option Addr} {cap cap9 bx ca cm:Nat} {os:List Ob} {d:Sd} {Aa Am:Option Addr} (a:AllJ w wr v h A cap os bx d Aa ca Am cm) (k:Below wr.heap.size wr W) (o:Ob)
  (own9:w9.ownsRow (w.heap.size + 1) 156 6 (.slice A9 (os.length + 1) cap9) (os.length + 1) (flatX os ++ cellsX o)) (gr:W.grownBy w9 (A.map fun a=>a.block)) (hb9:Below (w.heap.size + 1) W w9) (hat:A9=A ∨ A9=some ⟨W.heap.size,0,none⟩) :
  AllJ w w9 v h A9 cap9 (os ++ [o]) bx d Aa ca Am cm:=by
 have j:=a.later k
 have hlt:=j.sp.lt
 refine ⟨⟨Hb.below j.i.box hb9 (by omega),?_,Nat.le_trans j.i.sz hb9.size,j.i.bel.trans (hb9.mono (by omega))⟩,j.sp.grown gr j.far,?_,j.lo⟩
 ·rw [flatX_app,flatX_one,List.length_append];exact own9
 ·rcases hat with rfl | rfl
  ·exact j.far
  ·intro e;injection e with e;have e:W.heap.size=bx:=e;omega
theorem six_lies (W:World) (o:Ob) (t:TypeId):∀ j u,(cellsX o)[j]?=some u → (W.alloc (.cells #[.int .i64 o.i,.int .i64 o.k,.int .u64 o.a,.int .i64 o.n,.int .u64 o.m,.bool o.c] t)).cell? ⟨W.heap.size,0 + j,none⟩=some u:=by
 intro j u hj
 unfold cellsX at hj
 match j with
 | 0=>simp at hj;subst hj;simp [go_sem]
 | 1=>simp at hj;subst hj;simp [go_sem]
 | 2=>simp at hj;subst hj;simp [go_sem]
 | 3=>simp at hj;subst hj;simp [go_sem]
 | 4=>simp at hj;subst hj;simp [go_sem]
 | 5=>simp at hj;subst hj;simp [go_sem]
 | j + 6=>simp at hj
theorem cellsX_one (o:Ob):∀ u ∈ cellsX o,u.oneCell'=true:=by
 intro u hu
 simp only [cellsX,List.mem_cons,List.mem_nil_iff,or_false] at hu
 rcases hu with rfl | rfl | rfl | rfl | rfl | rfl <;> rfl
set_option maxHeartbeats 8000000 in
theorem xall_any {w:World} {v:Hv} {h:Hp} (hm:HM w w.heap.size v h) (hF:Framed h) (hO:Owned h) (b:Bool) (hb:b=true ↔ Heads h) :
  Calls Tryz.prog 96 #[hpV v h] w fun e w'=>∃ A cap,e=.returned (.tuple #[.slice A (obsB b h).length cap,.bool b])∧w'.ownsRow (w.heap.size + 1) 156 6 (.slice A (obsB b h).length cap) (obsB b h).length (flatX (obsB b h))∧Below w.heap.size w w':=by
 have HB:=Lib.hid hb
 have HL:=Lib.hid hF.spans
 have HOI:=Lib.hid hO.in_
 have HLG:=Lib.hid hF.long
 have HWD:=Lib.hid hm.a.words
 have hw16:=hF.words
 have h256:=hF.spans.1
 have hA:=hm.a
 have hV:=hm.v
 have I0:AllI w (w.alloc (.cells #[.slice v.A h.ws.length v.ca,.int .i64 h.n,.slice v.U h.us.length v.cu,.slice v.V h.l.length v.cv] 31)) v h none 0 []:=⟨Hb.new w v.A h.ws.length v.ca h.n v.U h.us.length v.cu v.V h.l.length v.cv 31,World.ownsRow_nil _ _ _ _,by simp,bX⟩
 have X0:=I0.box
 obtain ⟨x0,x1,x2,x3⟩:=id X0
 clear hb hF hO hm X0
 unfold hpV hpv
 go_enter Tryz.func96,Tryz.ntmps96
 go_wp2_with fail
 go_loopw [4,14] (fun ov iv wr=>∃ (i:Nat) (A:Option Addr) (cap:Nat) (os:List Ob),ov=.slice A os.length cap∧iv=.int .i64 (i:Nat)∧i ≤ h.l.length∧Hid (os=obsL h.ws h.l i)∧Hid (∀ j,j < i → HdS h.ws (nth h.l j) (slN (nth h.l j)))∧Hid (AllI w wr v h A cap os)) (fun ov iv _=>h.l.length - (intOf iv).toNat)
 case atStart=>exact ⟨0,none,0,[],rfl,rfl,Nat.zero_le _,Lib.hid rfl,Lib.hid (by intro j hj;omega),Lib.hid I0⟩
 case round=>
  clear I0 x0 x1 x2 x3
  obtain ⟨i,A,cap,os,rfl,rfl,hi,HE,HD,HI⟩:=hrel
  have hsz:=HI.out.sz
  have hb_wr:=HI.out.bel
  have hsr:=hb_wr.size
  by_cases hlt:i < h.l.length
  ·obtain ⟨g,off,hAe,hg,hc⟩:=hV.at_ (by omega)
   obtain ⟨Aa,ca,Am,cm,c8,ra,rm⟩:=hc i hlt
   have o1:=HL.out.at_ hlt
   have hoi:=HOI.out i hlt
   obtain ⟨d,hd⟩:∃ d,Hid (nth h.l i=d):=⟨_,rfl⟩
   rw [hd.out] at c8 ra rm o1 hoi
   have HLN:(obsL h.ws h.l i).length ≤ 2048:=by have:=obsL_len (ws:=h.ws) HL.out hi;omega
   have HBD:Hid (b=true → HdS h.ws d (slN d)):=Lib.hid fun e=>by have:=HB.out.1 e i hlt;rw [hd.out] at this;exact this
   have HEND:Hid (∀ os',os'=obsL h.ws h.l i ++ obsS h.ws d i (slN d) → os'=obsL h.ws h.l (i + 1)):=Lib.hid fun os' e=>by rw [e,obsL,hd.out]
   have HDN:Hid (HdS h.ws d (slN d) → ∀ j,j < i + 1 → HdS h.ws (nth h.l j) (slN (nth h.l j))):=Lib.hid fun e j hj=>by
    by_cases e2:j=i
    ·rw [e2,hd.out];exact e
    ·exact HD.out j (by omega)
   obtain ⟨k1,k8,kN⟩:=o1.slK
   have HAN:Hid (d.an=((slN d:Nat):Int)):=Lib.hid (by rw [kN];exact o1.an)
   have han2:=o1.an
   have p1:=o1.placed
   unfold Placed at p1
   have hss:=o1.sized.slots
   have HAT:=Lib.hid fun (w:World) (k:Nat) (hk:k < slN d)=>xat_any (w:=w) d Aa ca Am cm (k:Nat) p1.1 (by omega) ((k:Int) * d.z) rfl (o1.slA_eq hk).2.1 (by have:=(o1.slA_eq hk).2.2;omega)
   have HEQ:=Lib.hid fun (k:Nat) (hk:k < slN d)=>(o1.slA_eq hk).1
   have HIN:=Lib.hid fun (k:Nat) (hk:k < slN d)=>(show slA d k < h.ws.length by
    have h1:=(o1.slA_in hk).2
    have h2:=(o1.swd_eq).2.1
    have h3:=HLG.out
    have h4:=hoi.1
    omega)
   have HIS:=Lib.hid fun (w:World) (k:Nat) (hk:k < slN d) hr=>is_any (A:=Aa) (ws:=d.aw) (w:=w) (k:Nat) d.an ca hr (by omega) (by rw [o1.aw];omega) (by rw [o1.aw];omega)
   have HIM:=Lib.hid fun (w:World) (k:Nat) (hk:k < slN d) hr=>is_any (A:=Am) (ws:=d.mw) (w:=w) (k:Nat) d.mn cm hr (by omega) (by rw [o1.mw];omega) (by rw [o1.mw];omega)
   simp only [Int.toNat_natCast] at HIS HIM
   have HFI:=Lib.hid fun (w:World) n m h0 h1 b hb=>xfits_any (w:=w) n m h0 h1 d Aa ca Am cm b hb
   unfold spv at HAT HFI
   obtain ⟨x0,x1,x2,x3,x4,x5,x6,x7⟩:=id (c8.below hb_wr hg)
   obtain ⟨y0,y1,y2,y3⟩:=id HI.out.box
   have i1:(i:Int) < (h.l.length:Int):=by omega
   have i2:(0:Int) ≤ (i:Int):=by omega
   have J0:=Lib.hid (HI.out.span d Aa ca Am cm 99)
   have hJlo:=J0.out.lo
   clear hc c8 o1 hoi p1 hd HB hss han2
   obtain ⟨vA,vca,vU,vcu,vV,vcv⟩:=v
   simp only at *
   subst hAe
   go_wp2_with fail
   generalize wr=wA at *
   go_loopw [4,7] (fun ov kv wr=>∃ (k:Nat) (A:Option Addr) (cap:Nat) (os:List Ob),ov=.slice A os.length cap∧kv=.int .i64 (k:Nat)∧k ≤ slN d∧Hid (os=obsL h.ws h.l i ++ obsS h.ws d i k)∧Hid (HdS h.ws d k)∧Hid (AllJ w wr ⟨vA,vca,vU,vcu,some ⟨g,off,none⟩,vcv⟩ h A cap os wA.heap.size d Aa ca Am cm)) (fun ov kv _=>slN d - (intOf kv).toNat)
   case atStart=>exact ⟨0,A,cap,os,rfl,rfl,Nat.zero_le _,Lib.hid (by rw [HE.out];simp [obsS]),Lib.hid (by intro j hj;omega),J0⟩
   case round=>
    clear HI HE HD J0 y0 y1 y2 y3 x0 x1 x2 x3 x4 x5 x6 x7 hb_wr hsr hsz
    obtain ⟨k,A,cap,os,rfl,rfl,hk,HE,HD,HJ⟩:=hrel
    have hb_wr:=HJ.out.i.bel
    have hsr:=hb_wr.size
    have hsz:=HJ.out.i.sz
    have hbx:=HJ.out.sp.lt
    obtain ⟨y0,y1,y2,y3⟩:=id HJ.out.i.box
    obtain ⟨c0,c1,c2,c3,c4,c5,c6,c7⟩:=id HJ.out.sp
    have hsA:w.heap.size ≤ wr.heap.size:=hsr
    by_cases hkN:k < slN d
    ·have g5:decide ((k:Int) < d.an)=true:=decide_eq_true (by rw [HAN.out];omega)
     have HATk:=Lib.hid fun (w:World)=>HAT.out w k hkN
     have HISk:=Lib.hid fun (w:World) hr=>HIS.out w k hkN hr
     have HIMk:=Lib.hid fun (w:World) hr=>HIM.out w k hkN hr
     have HEQk:=Lib.hid (HEQ.out k hkN)
     have hin:=HIN.out k hkN
     have rak:Row wr wr.heap.size Aa d.aw:=ra.later hb_wr
     generalize hbt:tb d.aw k=bt at *
     cases bt
     ·have HE2:Hid (os=obsL h.ws h.l i ++ obsS h.ws d i (k + 1)):=Lib.hid (by rw [obsS,if_neg (by rw [hbt];decide),List.append_nil];exact HE.out)
      have HD2:Hid (HdS h.ws d (k + 1)):=Lib.hid (HD.out.step (fun e=>by rw [hbt] at e;cases e))
      clear HE HD hbt
      go_wp2_with fail
      go_at_call 107
      refine (HISk.out _ (rak.later bX)).mono ?_
      rintro e w1 ⟨rfl,hb_w1⟩
      have k1:Below wr.heap.size wr w1:=bX
      go_wp2
      have HJ1:=Lib.hid (HJ.out.later k1)
      go_roundw
      case rel=>exact ⟨k + 1,A,cap,os,rfl,by go_num,by omega,HE2,HD2,HJ1⟩
      case measure=>simp [intOf];omega
     ·obtain ⟨gA,oA,hAe,hgA,hcA⟩:=hA.at_ (by omega)
      subst hAe
      obtain ⟨a,ha⟩:∃ a,Hid (slA d k=a):=⟨_,rfl⟩
      rw [ha.out] at hin
      rw [← HEQk.out,ha.out] at HATk
      obtain ⟨x,hx⟩:∃ x,Hid (h.ws.getD a 0=x):=⟨_,rfl⟩
      have q0:wr.cell? ⟨gA,oA + a,none⟩=some (.int .u64 (x:Nat)):=((bcell hb_wr).1 _ _ hgA).trans (by rw [hcA a hin,hx.out])
      have hxl:x < W64:=by rw [← hx.out];exact HWD.out.at_ _
      have HUN:=Lib.hid fun (w:World)=>xunpack_any (w:=w) x hxl
      have HNO:Hid (¬ (Un x∧fitsB (unN x) d=true) → b=false):=Lib.hid fun hn=>by
       rcases b with _ | _
       ·rfl
       ·have:=HBD.out rfl k hkN hbt
        rw [ha.out,hx.out] at this
        exact absurd this hn
      have HYES:Hid (Un x → fitsB (unN x) d=true → HdS h.ws d (k + 1)):=Lib.hid fun e1 e2=>HD.out.step (fun _=>by rw [ha.out,hx.out];exact ⟨e1,e2⟩)
      have HOB:Hid (∀ cb,tb (curW d) k=cb → obAt h.ws d i k=⟨i,k,a,unN x,unM x,tb d.mw k,cb⟩):=Lib.hid fun cb e=>by unfold obAt;rw [ha.out,hx.out,e]
      have HE2:Hid (os ++ [obAt h.ws d i k]=obsL h.ws h.l i ++ obsS h.ws d i (k + 1)):=Lib.hid (by rw [obsS,if_pos hbt,← List.append_assoc,HE.out])
      have hol:os.length ≤ 2056:=by
       have h1:=HE.out
       have h2:=obsS_len h.ws d i k
       rw [h1,List.length_append]
       omega
      have HBT:=Lib.hid hbt
      have hin2:(a:Int) < (h.ws.length:Int):=by omega
      have hin0:(0:Int) ≤ (a:Int):=by omega
      clear HD HBD hbt hcA HEQk
      go_wp2_with fail
      go_at_call 107
      refine (HISk.out _ (rak.later bX)).mono ?_
      rintro e w1 ⟨rfl,hb_w1⟩
      have k1:Below wr.heap.size wr w1:=bX
      have hs1:=k1.size
      clear y0 y1 y2 y3 c0 c1 c2 c3 c4 c5 c6 c7 hb_w1
      obtain ⟨y0,y1,y2,y3⟩:=id (HJ.out.later k1).i.box
      obtain ⟨c0,c1,c2,c3,c4,c5,c6,c7⟩:=id (HJ.out.later k1).sp
      go_wp2_with fail
      go_at_call 164
      refine (HATk.out _).mono ?_
      rintro e w2 ⟨rfl,hb_w2⟩
      have k2:Below wr.heap.size wr w2:=bX
      have hs2:=k2.size
      clear y0 y1 y2 y3 c0 c1 c2 c3 c4 c5 c6 c7 hb_w2 k1 hs1
      obtain ⟨y0,y1,y2,y3⟩:=id (HJ.out.later k2).i.box
      obtain ⟨c0,c1,c2,c3,c4,c5,c6,c7⟩:=id (HJ.out.later k2).sp
      have q2:w2.cell? ⟨gA,oA + a,none⟩=some (.int .u64 (x:Nat)):=(k2.cell (p:=⟨gA,oA + a,none⟩) lX).trans q0
      by_cases hun:Un x
      ·have hY0:unY x=0:=by unfold unY;rw [if_pos hun]
       rw [hY0] at HUN
       obtain ⟨n0,n48⟩:=unN_bounds x
       clear hY0
       go_wp2_with fail
       go_at_call 175
       refine (HUN.out _).mono ?_
       rintro e w3 ⟨rfl,hb_w3⟩
       have k3:Below wr.heap.size wr w3:=bX
       have hs3:=k3.size
       clear y0 y1 y2 y3 c0 c1 c2 c3 c4 c5 c6 c7 hb_w3 k2 hs2 q2
       obtain ⟨c0,c1,c2,c3,c4,c5,c6,c7⟩:=id (HJ.out.later k3).sp
       have hb3:wA.heap.size < w3.heap.size:=by omega
       rcases hft:fitsB (unN x) d with _ | _
       ·obtain rfl:b=false:=HNO.out (fun hh=>by rw [hft] at hh;cases hh.2)
        have HFIk:=Lib.hid fun (w:World)=>HFI.out w (unN x) (unM x) n0 n48 false hft
        clear hft HNO HYES
        go_wp2_with fail
        go_at_call 176
        refine (HFIk.out _).mono ?_
        rintro e w4 ⟨rfl,hb_w4⟩
        have k4:Below wr.heap.size wr w4:=bX
        have b4:Below w.heap.size w w4:=hb_wr.trans (k4.mono hsr)
        have hs4:=b4.size
        clear hb_w4
        go_wp2
        go_ret2
        exact ⟨none,0,rfl,World.ownsRow_nil _ _ _ _,bX⟩
       ·have HFIk:=Lib.hid fun (w:World)=>HFI.out w (unN x) (unM x) n0 n48 true hft
        have HD2:=Lib.hid (HYES.out hun hft)
        clear hft HNO HYES hun
        have HA9:Hid ((A.map fun a=>a.block) ≠ some w3.heap.size):=Lib.hid fun e=>by have:=(HJ.out.i.blk _ e).2;omega
        go_wp2_with fail
        go_at_call 176
        refine (HFIk.out _).mono ?_
        rintro e w4 ⟨rfl,hb_w4⟩
        have k4:Below wr.heap.size wr w4:=bX
        have hs4:w3.heap.size < w4.heap.size:=(by have:=hb_w4.size;(try simp only [zZ] at this);omega)
        have z0:w4.cell? ⟨w3.heap.size,0,none⟩=some (.int .i64 (unN x)):=(hb_w4.cell lX).trans (by simp [go_sem])
        have z1:w4.cell? ⟨w3.heap.size,1,none⟩=some (.int .u64 (unM x:Nat)):=(hb_w4.cell lX).trans (by simp [go_sem])
        clear c0 c1 c2 c3 c4 c5 c6 c7 hb_w4
        obtain ⟨c0,c1,c2,c3,c4,c5,c6,c7⟩:=id (HJ.out.later k4).sp
        have hb4:wA.heap.size < w4.heap.size:=by omega
        have hw4:w.heap.size + 1 ≤ w4.heap.size:=by omega
        obtain hds | hds:d.s=false ∨ d.s=true:=by cases d.s <;> simp
        ·rw [hds] at c7
         have hcb:tb (curW d) k=tb d.mw k:=by unfold curW;rw [hds];rfl
         have HE3:Hid (os ++ [⟨i,k,a,unN x,unM x,tb d.mw k,tb d.mw k⟩]=obsL h.ws h.l i ++ obsS h.ws d i (k + 1)):=Lib.hid (by rw [← HOB.out _ hcb];exact HE2.out)
         clear hds hcb
         have rmk:Row w4 w4.heap.size Am d.mw:=(rm.later hb_wr).later k4
         go_wp2_with fail
         refine wp_region_held_drew (S:=(fun X:World=>X.cell? ⟨w3.heap.size,0,none⟩=some (.int .i64 (unN x))∧X.cell? ⟨w3.heap.size,1,none⟩=some (.int .u64 (unM x:Nat))∧X.cell? ⟨wA.heap.size,5,none⟩=some (.int .i64 d.mn)∧X.cell? ⟨wA.heap.size,6,none⟩=some (.slice Am d.mw.length cm)∧X.cell? ⟨wA.heap.size,7,none⟩=some (.bool false))) (by kernel_rfl) ?_ fun _=>?_
         ·exact kS
         refine tY 0 ?_
         try simp only [Act.put,qZ]
         refine tY 1 ?_
         try simp only [Act.put,qZ]
         refine tY 2 ?_
         try simp only [Act.put,qZ]
         refine tY 3 ?_
         try simp only [Act.put,qZ]
         refine tY 4 ?_
         try simp only [Act.put,qZ]
         refine tY 5 ?_
         try simp only [Act.put,qZ]
         refine tY 6 ?_
         try simp only [Act.put,qZ]
         refine tY 7 ?_
         try simp only [Act.put,qZ]
         refine tY 8 ?_
         try simp only [Act.put,qZ]
         refine tY 9 ?_
         try simp only [Act.put,qZ]
         refine tY 10 ?_
         try simp only [Act.put,qZ]
         refine tR 11 fun K hK=>?_
         try simp only [qZ]
         go_simp
         go_at_call 107
         refine (HIMk.out _ (rmk.later bX)).mono ?_
         rintro e w5 ⟨rfl,hb_w5⟩
         have hs5:w4.heap.size ≤ w5.heap.size:=(by have:=hb_w5.size;(try simp only [zZ] at this);omega)
         have mw50:w5.cell? ⟨w3.heap.size,0,none⟩=some (.int .i64 (unN x)):=cX hb_w5
         have mw51:w5.cell? ⟨w3.heap.size,1,none⟩=some (.int .u64 (unM x:Nat)):=cX hb_w5
         have mw52:w5.cell? ⟨wA.heap.size,5,none⟩=some (.int .i64 d.mn):=cX hb_w5
         have mw53:w5.cell? ⟨wA.heap.size,6,none⟩=some (.slice Am d.mw.length cm):=cX hb_w5
         have mw54:w5.cell? ⟨wA.heap.size,7,none⟩=some (.bool false):=cX hb_w5
         try go_wp2_with fail
         refine hK.out _ _ ?_ fun _=>?_
         ·exact kS
         clear hK K
         try simp only [Act.put,qZ]
         refine tR 12 fun K hK=>?_
         try simp only [qZ]
         go_simp
         refine hK.out _ _ ?_ fun _=>?_
         ·exact kS
         clear hK K
         try simp only [Act.put,qZ]
         refine tY 13 ?_
         try simp only [Act.put,qZ]
         refine tR 14 fun K hK=>?_
         try simp only [qZ]
         go_simp
         refine hK.out _ _ ?_ fun _=>?_
         ·exact kS
         clear hK K
         try simp only [Act.put,qZ]
         refine tR 15 fun K hK=>?_
         try simp only [qZ]
         rw [if_pos]
         rotate_left
         ·rfl
         refine wp_appendOb (.tmp 52) (.tmp 66) (by rfl) (w.heap.size + 1) A cap os.length (flatX os) (by simp [Act.eval,Act.put]) (owns_laterN HJ.out.i.own bX) (some ⟨w5.heap.size,0,none⟩) 1 1 (cellsX ⟨i,k,a,unN x,unM x,tb d.mw k,tb d.mw k⟩) (by simp [Act.eval,Act.put]) rfl (fun _=>⟨w5.heap.size,0,rfl,six_lies _ ⟨i,k,a,unN x,unM x,tb d.mw k,tb d.mw k⟩ _⟩) (cellsX_one ⟨i,k,a,unN x,unM x,tb d.mw k,tb d.mw k⟩) (by omega) lX ?_
         intro A9 cap9 w9 own9 hgr9 hb_w9 hat9
         have m90:w9.cell? ⟨w3.heap.size,0,none⟩=some (.int .i64 (unN x)):=(World.cell?_of_block (hgr9.block _ lX (fun e=>HA9.out e.symm))).trans kX
         have m91:w9.cell? ⟨w3.heap.size,1,none⟩=some (.int .u64 (unM x:Nat)):=(World.cell?_of_block (hgr9.block _ lX (fun e=>HA9.out e.symm))).trans kX
         have m92:w9.cell? ⟨wA.heap.size,5,none⟩=some (.int .i64 d.mn):=(World.cell?_of_block (hgr9.block _ lX (fun e=>HJ.out.far e.symm))).trans kX
         have m93:w9.cell? ⟨wA.heap.size,6,none⟩=some (.slice Am d.mw.length cm):=(World.cell?_of_block (hgr9.block _ lX (fun e=>HJ.out.far e.symm))).trans kX
         have m94:w9.cell? ⟨wA.heap.size,7,none⟩=some (.bool false):=(World.cell?_of_block (hgr9.block _ lX (fun e=>HJ.out.far e.symm))).trans kX
         have HJ9:=Lib.hid (HJ.out.next bX ⟨i,k,a,unN x,unM x,tb d.mw k,tb d.mw k⟩ own9 hgr9 hb_w9 hat9)
         clear own9 hgr9 hb_w9 hat9
         refine hK.out _ _ ?_ fun _=>?_
         ·(try dsimp only);refine ⟨?_,?_,?_,?_,?_⟩ <;> assumption
         clear hK K
         try simp only [Act.put,qZ]
         refine tY 16 ?_
         try simp only [Act.put,qZ]
         refine wpAnyH_done (by kernel_rfl) ?_ _
         go_wp2
         go_roundw
         case rel=>exact ⟨k + 1,A9,cap9,_,by simp,by go_num,by omega,HE3,HD2,HJ9⟩
         case measure=>simp [intOf];omega
        ·rw [hds] at c7
         have hcb:tb (curW d) k=true:=by unfold curW;rw [hds];exact HBT.out
         have HE3:Hid (os ++ [⟨i,k,a,unN x,unM x,tb d.mw k,true⟩]=obsL h.ws h.l i ++ obsS h.ws d i (k + 1)):=Lib.hid (by rw [← HOB.out _ hcb];exact HE2.out)
         clear hds hcb
         go_wp2_with fail
         refine wp_region_held_drew (S:=(fun X:World=>X.cell? ⟨w3.heap.size,0,none⟩=some (.int .i64 (unN x))∧X.cell? ⟨w3.heap.size,1,none⟩=some (.int .u64 (unM x:Nat))∧X.cell? ⟨wA.heap.size,5,none⟩=some (.int .i64 d.mn)∧X.cell? ⟨wA.heap.size,6,none⟩=some (.slice Am d.mw.length cm)∧X.cell? ⟨wA.heap.size,7,none⟩=some (.bool true))) (by kernel_rfl) ?_ fun _=>?_
         ·exact kS
         refine tY 0 ?_
         try simp only [Act.put,qZ]
         refine tY 1 ?_
         try simp only [Act.put,qZ]
         refine tY 2 ?_
         try simp only [Act.put,qZ]
         refine tY 3 ?_
         try simp only [Act.put,qZ]
         refine tY 4 ?_
         try simp only [Act.put,qZ]
         refine tY 5 ?_
         try simp only [Act.put,qZ]
         refine tY 6 ?_
         try simp only [Act.put,qZ]
         refine tY 7 ?_
         try simp only [Act.put,qZ]
         refine tN 8 ?_
         try simp only [Act.put,qZ]
         refine tN 9 ?_
         try simp only [Act.put,qZ]
         refine tN 10 ?_
         try simp only [Act.put,qZ]
         refine tN 11 ?_
         try simp only [Act.put,qZ]
         refine tR 12 fun K hK=>?_
         try simp only [qZ]
         go_simp
         refine hK.out _ _ ?_ fun _=>?_
         ·exact kS
         clear hK K
         try simp only [Act.put,qZ]
         refine tY 13 ?_
         try simp only [Act.put,qZ]
         refine tR 14 fun K hK=>?_
         try simp only [qZ]
         go_simp
         refine hK.out _ _ ?_ fun _=>?_
         ·exact kS
         clear hK K
         try simp only [Act.put,qZ]
         refine tR 15 fun K hK=>?_
         try simp only [qZ]
         rw [if_pos]
         rotate_left
         ·rfl
         refine wp_appendOb (.tmp 52) (.tmp 66) (by rfl) (w.heap.size + 1) A cap os.length (flatX os) (by simp [Act.eval,Act.put]) (owns_laterN HJ.out.i.own bX) (some ⟨w4.heap.size,0,none⟩) 1 1 (cellsX ⟨i,k,a,unN x,unM x,tb d.mw k,true⟩) (by simp [Act.eval,Act.put]) rfl (fun _=>⟨w4.heap.size,0,rfl,six_lies _ ⟨i,k,a,unN x,unM x,tb d.mw k,true⟩ _⟩) (cellsX_one ⟨i,k,a,unN x,unM x,tb d.mw k,true⟩) (by omega) lX ?_
         intro A9 cap9 w9 own9 hgr9 hb_w9 hat9
         have m90:w9.cell? ⟨w3.heap.size,0,none⟩=some (.int .i64 (unN x)):=(World.cell?_of_block (hgr9.block _ lX (fun e=>HA9.out e.symm))).trans kX
         have m91:w9.cell? ⟨w3.heap.size,1,none⟩=some (.int .u64 (unM x:Nat)):=(World.cell?_of_block (hgr9.block _ lX (fun e=>HA9.out e.symm))).trans kX
         have m92:w9.cell? ⟨wA.heap.size,5,none⟩=some (.int .i64 d.mn):=(World.cell?_of_block (hgr9.block _ lX (fun e=>HJ.out.far e.symm))).trans kX
         have m93:w9.cell? ⟨wA.heap.size,6,none⟩=some (.slice Am d.mw.length cm):=(World.cell?_of_block (hgr9.block _ lX (fun e=>HJ.out.far e.symm))).trans kX
         have m94:w9.cell? ⟨wA.heap.size,7,none⟩=some (.bool true):=(World.cell?_of_block (hgr9.block _ lX (fun e=>HJ.out.far e.symm))).trans kX
         have HJ9:=Lib.hid (HJ.out.next bX ⟨i,k,a,unN x,unM x,tb d.mw k,true⟩ own9 hgr9 hb_w9 hat9)
         clear own9 hgr9 hb_w9 hat9
         refine hK.out _ _ ?_ fun _=>?_
         ·(try dsimp only);refine ⟨?_,?_,?_,?_,?_⟩ <;> assumption
         clear hK K
         try simp only [Act.put,qZ]
         refine tY 16 ?_
         try simp only [Act.put,qZ]
         refine wpAnyH_done (by kernel_rfl) ?_ _
         go_wp2
         go_roundw
         case rel=>exact ⟨k + 1,A9,cap9,_,by simp,by go_num,by omega,HE3,HD2,HJ9⟩
         case measure=>simp [intOf];omega
      ·have hY2:unY x=2:=by unfold unY;rw [if_neg hun]
       rw [hY2] at HUN
       obtain rfl:b=false:=HNO.out (fun hh=>hun hh.1)
       clear hY2 HNO HYES hun
       go_wp2_with fail
       go_at_call 175
       refine (HUN.out _).mono ?_
       rintro e w3 ⟨rfl,hb_w3⟩
       have k3:Below wr.heap.size wr w3:=bX
       have b3:Below w.heap.size w w3:=hb_wr.trans (k3.mono hsr)
       have hs3:=b3.size
       clear hb_w3
       go_wp2
       go_ret2
       exact ⟨none,0,rfl,World.ownsRow_nil _ _ _ _,bX⟩
    ·have hkN2:k=slN d:=by omega
     have g5:decide ((k:Int) < d.an)=false:=decide_eq_false (by rw [HAN.out];omega)
     have HE2:Hid (os=obsL h.ws h.l (i + 1)):=Lib.hid (HEND.out os (by rw [← hkN2];exact HE.out))
     have HD2:Hid (∀ j,j < i + 1 → HdS h.ws (nth h.l j) (slN (nth h.l j))):=Lib.hid (HDN.out (by rw [← hkN2];exact HD.out))
     have HI2:=Lib.hid HJ.out.i
     clear HE HD HJ hkN hkN2 kN k1 k8
     go_wp2
     go_roundw
     case rel=>exact ⟨i + 1,A,cap,os,rfl,by go_num,by omega,HE2,HD2,HI2⟩
     case measure=>simp [intOf];omega
  ·obtain rfl:i=h.l.length:=by omega
   obtain rfl:b=true:=HB.out.2 fun j hj k hk=>HD.out j hj k hk
   have HR:Hid (wr.ownsRow (w.heap.size + 1) 156 6 (.slice A (obsB true h).length cap) (obsB true h).length (flatX (obsB true h))):=Lib.hid (by
    have h1:=HI.out.own
    rw [HE.out] at h1
    exact h1)
   have e5:os.length=(obsB true h).length:=by rw [HE.out];rfl
   clear HE HD HI HB
   rw [e5]
   go_wp2
   go_ret2
   exact ⟨A,cap,rfl,HR.out,bX⟩
set_option maxHeartbeats 2000000 in
theorem xswept_any {w:World} {v:Hv} {h:Hp} (hm:HM w w.heap.size v h) (hl:h.l.length ≤ 256) (b:Bool) (hb:b=true ↔ ∀ j,j < h.l.length → (nth h.l j).s=true) :
  Calls Tryz.prog 111 #[hpV v h] w fun e w'=>e=.returned (.bool b)∧Below w.heap.size w w':=by
 have HB:=Lib.hid hb
 have hV:=hm.v
 obtain ⟨vA,vca,vU,vcu,vV,vcv⟩:=v
 have X0:=Hb.new w vA h.ws.length vca h.n vU h.us.length vcu vV h.l.length vcv 31
 obtain ⟨x0,x1,x2,x3⟩:=id X0
 clear hb hm X0
 unfold hpV hpv
 simp only at *
 go_enter Tryz.func111,Tryz.ntmps111
 go_wp2_with fail
 go_loopw [8] (fun iv wr=>∃ i:Nat,iv=.int .i64 (i:Nat)∧i ≤ h.l.length∧Hid (∀ j,j < i → (nth h.l j).s=true)∧w.heap.size + 1 ≤ wr.heap.size∧Below w.heap.size w wr) (fun iv _=>h.l.length - (intOf iv).toNat)
 case atStart=>exact ⟨0,rfl,Nat.zero_le _,Lib.hid (by intro j hj;omega),by simp,bX⟩
 case round=>
  clear x0 x1 x2 x3
  obtain ⟨i,rfl,hi,HD,hsz,hb_wr⟩:=hrel
  by_cases hlt:i < h.l.length
  ·obtain ⟨g,off,hAe,hg,hc⟩:=hV.at_ (by omega)
   obtain ⟨Aa,ca,Am,cm,c8,_,_⟩:=hc i hlt
   obtain ⟨d,hd⟩:∃ d,Hid (nth h.l i=d):=⟨_,rfl⟩
   rw [hd.out] at c8
   obtain ⟨x0,x1,x2,x3,x4,x5,x6,x7⟩:=id (c8.below hb_wr hg)
   have i1:(i:Int) < (h.l.length:Int):=by omega
   have i2:(0:Int) ≤ (i:Int):=by omega
   subst hAe
   clear hc c8
   obtain hds | hds:d.s=false ∨ d.s=true:=by cases d.s <;> simp
   ·obtain rfl:b=false:=by
     rcases b with _ | _
     ·rfl
     ·have:=HB.out.1 rfl i hlt;rw [hd.out,hds] at this;cases this
    rw [hds] at x7
    clear hds
    go_wp2
    go_ret
    exact ⟨rfl,bX⟩
   ·rw [hds] at x7
    have HD2:Hid (∀ j,j < i + 1 → (nth h.l j).s=true):=Lib.hid fun j hj=>by
     by_cases e:j=i
     ·rw [e,hd.out];exact hds
     ·exact HD.out j (by omega)
    clear hds
    go_wp2
    go_roundw
    case rel=>exact ⟨i + 1,by go_num,by omega,HD2,lX,bX⟩
    case measure=>simp [intOf];omega
  ·obtain rfl:i=h.l.length:=by omega
   obtain rfl:b=true:=HB.out.2 fun j hj=>HD.out j hj
   go_wp2
   go_ret
   exact ⟨rfl,bX⟩
def anyB (l:List Sd) (i:Int):Nat → Bool
 | 0=>false
 | k + 1=>anyB l i k || (decide ((nth l k).f ≤ i) && decide (i < (nth l k).f + (nth l k).p))
theorem anyB_iff {l:List Sd} {i:Int} {k:Nat}:anyB l i k=true ↔ ∃ j,j < k∧(nth l j).f ≤ i∧i < (nth l j).f + (nth l j).p:=by
 induction k with
 | zero=>simp [anyB]
 | succ k ih=>
  rw [anyB,Bool.or_eq_true,ih,Bool.and_eq_true,decide_eq_true_eq,decide_eq_true_eq]
  constructor
  ·rintro (⟨j,h1,h2⟩ | h)
   ·exact ⟨j,by omega,h2⟩
   ·exact ⟨k,by omega,h⟩
  ·rintro ⟨j,h1,h2⟩
   by_cases e:j=k
   ·right;rw [← e];exact h2
   ·left;exact ⟨j,by omega,h2⟩
structure FrmD (h:Hp):Prop where
 words:h.ws.length ≤ 16384
 pages:Right h.n h.us
 spans:OkL h.l
 some_:1 ≤ h.n
 long:(h.ws.length:Int)=h.n * 16
 zero:tb h.us 0=true
 used:∀ i:Nat,1 ≤ i → (i:Int) < h.n → tb h.us i=anyB h.l i h.l.length
 in_:∀ j,j < h.l.length → 1 ≤ (nth h.l j).f∧(nth h.l j).f + (nth h.l j).p ≤ h.n
theorem frmD_iff (h:Hp):FrmD h ↔ Framed h∧Owned h:=by
 constructor
 ·intro d
  refine ⟨⟨d.words,d.pages,d.spans,by have:=d.some_;omega,d.long⟩,⟨d.in_,fun i hi=>?_⟩⟩
  by_cases h0:i=0
  ·subst h0
   exact ⟨fun _=>.inl rfl,fun _=>d.zero⟩
  ·rw [d.used i (by omega) hi,anyB_iff]
   constructor
   ·rintro ⟨j,h1,h2⟩;exact .inr ⟨j,h1,h2⟩
   ·rintro (h1 | h1)
    ·omega
    ·exact h1
 ·rintro ⟨f,o⟩
  refine ⟨f.words,f.pages,f.spans,by have:=f.some_;omega,f.long,?_,fun i h1 h2=>?_,o.in_⟩
  ·exact (o.used 0 (by have:=f.some_;omega)).2 (.inl rfl)
  ·rw [Bool.eq_iff_iff,o.used i h2,anyB_iff]
   constructor
   ·rintro (h3 | h3)
    ·omega
    ·exact h3
   ·exact fun h3=>.inr h3
section
variable {A:Option Addr} {ws:List Nat} {w:World} (cap:Nat)
set_option maxHeartbeats 1000000 in
theorem raclear_out (i n:Nat) (hb_i:i < W64) (hb_n:n < W64) (hr:Row w w.heap.size A ws) (hl:ws.length ≤ 17592186044416) (hm:ws.length ≤ 16384) (hb:¬ i + n ≤ ws.length) :
  Calls Tryz.prog 118 #[.agg #[.slice A ws.length cap],.int .u64 (i:Nat),.int .u64 (n:Nat)] w fun e w'=>FreshA w ws 1 e w':=by
 have HB:=Lib.hid hb
 clear hb
 go_enter Tryz.func118,Tryz.ntmps118
 go_wp2_with fail
 go_at_call 174
 refine (racheck_ok _ _ hm).mono ?_
 rintro e w1 ⟨rfl,hb_w1⟩
 obtain ⟨hc_w1,hf_w1⟩:=bcell hb_w1;have hz_w1_w_0:w.heap.size < w1.heap.size:=lY hb_w1.size;have hz_w1_w_1:w.heap.size + 1 < w1.heap.size:=lY hb_w1.size;have hs_w1:=hb_w1.size;(try simp only [zZ] at hs_w1)
 go_wp2_with fail
 go_at_call 70
 refine (acopy_any _ (hr.later bX) hl).mono ?_
 rintro e w2 ⟨A1,cap1,rfl,ho2,hb_w2⟩
 obtain ⟨hc_w2,hf_w2⟩:=bcell hb_w2;have hz_w2_w_0:w.heap.size < w2.heap.size:=lY hb_w2.size;have hz_w2_w_1:w.heap.size + 1 < w2.heap.size:=lY hb_w2.size;have hs_w2:=hb_w2.size;(try simp only [zZ] at hs_w2)
 have t2:One w2 w.heap.size (.slice A ws.length cap):=⟨(hc_w2 _ _ lX).trans ((hc_w1 _ _ lX).trans (by simp [go_sem])),(hf_w2 _ _ lX).trans ((hf_w1 _ _ lX).trans (by simp [go_sem]))⟩
 have u2:One w2 (w.heap.size + 1) (.slice none 0 0):=⟨(hc_w2 _ _ lX).trans ((hc_w1 _ _ lX).trans (by simp [go_sem])),(hf_w2 _ _ lX).trans ((hf_w1 _ _ lX).trans (by simp [go_sem]))⟩
 have q0:=t2.c0
 have q1:=t2.fr
 have s0:∀ V,(w2.setCell ⟨w.heap.size,0,none⟩ V).cell? ⟨w.heap.size,0,none⟩=some V:=fun V=>(t2.set_ V).c0
 go_wp2_with fail
 go_at_call 197
 refine (athere_any _ ws.length i n false (by omega) hb_i hb_n (.inr ⟨rfl,HB.out⟩)).mono ?_
 rintro e w3 ⟨rfl,hb_w3⟩
 obtain ⟨hc_w3,hf_w3⟩:=bcell hb_w3;have hz_w3_w_0:w.heap.size < w3.heap.size:=lY hb_w3.size;have hz_w3_w_1:w.heap.size + 1 < w3.heap.size:=lY hb_w3.size;have hs_w3:=hb_w3.size;(try simp only [zZ] at hs_w3)
 have r0:w3.cell? ⟨w.heap.size,0,none⟩=some (.slice A1 ws.length cap1):=(hc_w3 _ _ lX).trans (s0 _)
 have u3:One w3 (w.heap.size + 1) (.slice none 0 0):=(u2.far lX _).below hb_w3 lX
 go_wp2_with fail
 exact bodyPost_ret (res_arena rfl rfl (u3.set_ _).c0) rfl ⟨A1,cap1,rfl,⟨((((ho2.1.far (p:=⟨w.heap.size,0,none⟩) (.inl lX) _).later hb_w3).far (p:=⟨w.heap.size + 1,0,none⟩) (.inl lX) _).mono lX),ho2.2⟩,bX⟩
set_option maxHeartbeats 1000000 in
theorem raclear_in (i n:Nat) (hb_i:i < W64) (hb_n:n < W64) (hr:Row w w.heap.size A ws) (hl:ws.length ≤ 17592186044416) (hm:ws.length ≤ 16384) (hb:i + n ≤ ws.length) :
  Calls Tryz.prog 118 #[.agg #[.slice A ws.length cap],.int .u64 (i:Nat),.int .u64 (n:Nat)] w fun e w'=>FreshA w (overTo ws i (fun _=>0) n) 0 e w':=by
 have HB:=Lib.hid hb
 clear hb
 go_enter Tryz.func118,Tryz.ntmps118
 go_wp2_with fail
 go_at_call 174
 refine (racheck_ok _ _ hm).mono ?_
 rintro e w1 ⟨rfl,hb_w1⟩
 obtain ⟨hc_w1,hf_w1⟩:=bcell hb_w1;have hz_w1_w_0:w.heap.size < w1.heap.size:=lY hb_w1.size;have hz_w1_w_1:w.heap.size + 1 < w1.heap.size:=lY hb_w1.size;have hs_w1:=hb_w1.size;(try simp only [zZ] at hs_w1)
 go_wp2_with fail
 go_at_call 70
 refine (acopy_any _ (hr.later bX) hl).mono ?_
 rintro e w2 ⟨A1,cap1,rfl,ho2,hb_w2⟩
 obtain ⟨hc_w2,hf_w2⟩:=bcell hb_w2;have hz_w2_w_0:w.heap.size < w2.heap.size:=lY hb_w2.size;have hz_w2_w_1:w.heap.size + 1 < w2.heap.size:=lY hb_w2.size;have hs_w2:=hb_w2.size;(try simp only [zZ] at hs_w2)
 have t2:One w2 w.heap.size (.slice A ws.length cap):=⟨(hc_w2 _ _ lX).trans ((hc_w1 _ _ lX).trans (by simp [go_sem])),(hf_w2 _ _ lX).trans ((hf_w1 _ _ lX).trans (by simp [go_sem]))⟩
 have u2:One w2 (w.heap.size + 1) (.slice none 0 0):=⟨(hc_w2 _ _ lX).trans ((hc_w1 _ _ lX).trans (by simp [go_sem])),(hf_w2 _ _ lX).trans ((hf_w1 _ _ lX).trans (by simp [go_sem]))⟩
 have q0:=t2.c0
 have q1:=t2.fr
 have s0:∀ V,(w2.setCell ⟨w.heap.size,0,none⟩ V).cell? ⟨w.heap.size,0,none⟩=some V:=fun V=>(t2.set_ V).c0
 go_wp2_with fail
 go_at_call 197
 refine (athere_any _ ws.length i n true (by omega) hb_i hb_n (.inl ⟨rfl,HB.out⟩)).mono ?_
 rintro e w3 ⟨rfl,hb_w3⟩
 obtain ⟨hc_w3,hf_w3⟩:=bcell hb_w3;have hz_w3_w_0:w.heap.size < w3.heap.size:=lY hb_w3.size;have hz_w3_w_1:w.heap.size + 1 < w3.heap.size:=lY hb_w3.size;have hs_w3:=hb_w3.size;(try simp only [zZ] at hs_w3)
 have r0:w3.cell? ⟨w.heap.size,0,none⟩=some (.slice A1 ws.length cap1):=(hc_w3 _ _ lX).trans (s0 _)
 have u3:One w3 (w.heap.size + 1) (.slice none 0 0):=(u2.far lX _).below hb_w3 lX
 have t3:One w3 w.heap.size (.slice A1 ws.length cap1):=(t2.set_ _).below hb_w3 lX
 have ho3:=((ho2.1.far (p:=⟨w.heap.size,0,none⟩) (.inl lX) (.slice A1 ws.length cap1)).later hb_w3).mono (B':=w.heap.size + 2) lX
 go_wp2_with fail
 go_loopw [8] (fun x wr=>∃ k:Nat,x=.int .u64 k∧k ≤ n∧Own wr (w.heap.size + 2) A1 (overTo ws i (fun _=>0) k)∧One wr w.heap.size (.slice A1 ws.length cap1) ∧
   One wr (w.heap.size + 1) (.slice none 0 0)∧w.heap.size + 2 ≤ wr.heap.size∧Below w.heap.size w wr) (fun x _=>n - (intOf x).toNat)
 case atStart=>exact ⟨0,rfl,Nat.zero_le _,ho3,t3,u3,lX,bX⟩
 case round=>
  obtain ⟨k,rfl,hk,hO,hT,hU,hsz,hb_wr⟩:=hrel
  have hT0:=hT.c0
  have hT1:=hT.fr
  by_cases hlt:k < n
  ·have hL:=length_overTo ws i (fun _=>0) k
   have hB:=HB.out
   unfold W64 at hb_i hb_n
   obtain ⟨g,rfl,hBg,hg,hcg⟩:=hO.at_ (by omega)
   obtain ⟨hcg1,hfg1⟩:=hcg (i + k) (by omega)
   clear hcg
   have hne:g ≠ w.heap.size∧g ≠ w.heap.size + 1:=by omega
   have HO:=Lib.hid hO
   have HL:=Lib.hid hL
   clear hO hL
   have i1:(i:Int) + k < ws.length:=by omega
   have e1:IntKind.u64.wrap ((i:Int) + k)=i + k:=IntWalk.u64_in _ (by omega)
   have e2:IntKind.u64.wrap ((k:Int) + 1)=k + 1:=IntWalk.u64_in _ (by omega)
   have e3:((i:Int) + k).toNat=i + k:=by omega
   go_wp2
   go_roundw
   case rel=>
    exact ⟨k + 1,by go_num,by omega,HO.out.set_ rfl (by have:=HL.out;have:=HB.out;omega) (by decide),hT.far hne.1 _,hU.far hne.2 _,lX,bX⟩
   case measure=>simp [intOf];omega
  ·obtain rfl:n=k:=by omega
   have hU0:=hU.c0
   have hU1:=hU.fr
   go_wp2
   exact bodyPost_ret (res_arena rfl rfl (hU.set_ _).c0) rfl ⟨A1,cap1,by rw [length_overTo];rfl,⟨(hO.far (p:=⟨w.heap.size + 1,0,none⟩) (.inl lX) _).mono lX,by rw [length_overTo];exact ho2.2⟩,bX⟩
theorem racheck_any:Calls Tryz.prog 174 #[.agg #[.slice A ws.length cap]] w fun e w'=>e=.returned (.int .i64 (errA ws True))∧Below w.heap.size w w':=by
 unfold errA
 by_cases hb:ws.length ≤ 16384
 ·rw [if_pos hb,if_pos trivial]
  exact racheck_ok _ _ hb
 ·rw [if_neg hb]
  exact racheck_bad _ _ hb
end
theorem bool_false {b:Bool} {P:Prop} (hb:b=true ↔ P) (hn:¬ P):b=false:=by
 rcases b with _ | _
 ·rfl
 ·exact absurd (hb.1 rfl) hn
set_option maxHeartbeats 8000000 in
theorem xframed_any {w:World} {v:Hv} {h:Hp} (hm:HM w w.heap.size v h) (h2:h.l.length ≤ 17592186044416) (b:Bool) (hb:b=true ↔ FrmD h) :
  Calls Tryz.prog 95 #[hpV v h] w fun e w'=>e=.returned (.bool b)∧Below w.heap.size w w':=by
 have HA:=Lib.hid fun (w:World)=>racheck_any (w:=w) (A:=v.A) (ws:=h.ws) v.ca
 have HB:=Lib.hid hb
 have hA:=hm.a
 have hU:=hm.u
 have hV:=hm.v
 have X0:=Hb.new w v.A h.ws.length v.ca h.n v.U h.us.length v.cu v.V h.l.length v.cv 31
 unfold hpV hpv
 obtain ⟨vA,vca,vU,vcu,vV,vcv⟩:=v
 simp only at *
 by_cases q1:h.ws.length ≤ 16384
 ·have e1:errA h.ws True=0:=(resA_in (us:=[]) q1 trivial).2
  rw [e1] at HA
  by_cases q2:Right h.n h.us
  ·have HP:=Lib.hid fun (w:World) hu=>rpcheck_ok (w:=w) (n:=h.n) (A:=vU) (ws:=h.us) vcu hu q2
   by_cases q3:OkL h.l
   ·have HS:=Lib.hid fun (w:World) hv=>xcheckL_any (w:=w) (A:=vV) (l:=h.l) vcv hv h2 0 (.inl ⟨q3,rfl⟩)
    have hn:=q2.1
    have hn2:=q2.2.1
    have hmul:IntKind.i64.wrap (h.n * 16)=h.n * 16:=by rw [IntKind.wrap_i64];omega
    by_cases q4:1 ≤ h.n
    ·have d4:decide (h.n < 1)=false:=decide_eq_false (by omega)
     have HI:=Lib.hid fun (w:World) hr=>is_any (A:=vU) (ws:=h.us) (w:=w) 0 h.n vcu hr (by omega) (by have:=q2.2.2.1;omega) (by have:=q2.2.2.1;omega)
     simp only [Int.toNat_zero] at HI
     have hwl:Hid (h.ws.length ≤ 16384):=Lib.hid q1
     by_cases q5:(h.ws.length:Int)=h.n * 16
     ·have d5:((h.ws.length:Int) != h.n * 16)=false:=by simp [q5]
      generalize hz:tb h.us 0=z at *
      cases z
      obtain rfl:b=false:=bool_false HB.out (fun d=>by have:=d.zero;rw [hz] at this;cases this)
      clear q1 q2 q3 q5 e1
      clear hb hm X0
      go_enter Tryz.func95,Tryz.ntmps95
      go_wp2_with (first
       | (go_at_call 174;refine (HA.out _).mono ?_;rintro e w1 ⟨rfl,hb_w1⟩;obtain ⟨hc_w1,hf_w1⟩:=bcell hb_w1;have hz_w1_w_0:w.heap.size < w1.heap.size:=lY hb_w1.size;have hs_w1:=hb_w1.size;(try simp only [zZ] at hs_w1))
       | (go_at_call 166;refine (HP.out _ (hU.later bX)).mono ?_;rintro e w2 ⟨rfl,hb_w2⟩;obtain ⟨hc_w2,hf_w2⟩:=bcell hb_w2;have hz_w2_w_0:w.heap.size < w2.heap.size:=lY hb_w2.size;have hs_w2:=hb_w2.size;(try simp only [zZ] at hs_w2))
       | (go_at_call 162;refine (HS.out _ (hV.later bX)).mono ?_;rintro e w3 ⟨rfl,hb_w3⟩;obtain ⟨hc_w3,hf_w3⟩:=bcell hb_w3;have hz_w3_w_0:w.heap.size < w3.heap.size:=lY hb_w3.size;have hs_w3:=hb_w3.size;(try simp only [zZ] at hs_w3))
       | (go_at_call 107;refine (HI.out _ (hU.later bX)).mono ?_;rintro e w4 ⟨rfl,hb_w4⟩;obtain ⟨hc_w4,hf_w4⟩:=bcell hb_w4;have hz_w4_w_0:w.heap.size < w4.heap.size:=lY hb_w4.size;have hs_w4:=hb_w4.size;(try simp only [zZ] at hs_w4)))
      go_ret
      exact ⟨rfl,bX⟩
      ·have HR:=Lib.hid q2
       have HO:=Lib.hid q3
       have HF:Hid (((∀ i:Nat,1 ≤ i → (i:Int) < h.n → tb h.us i=anyB h.l i h.l.length)∧(∀ j,j < h.l.length → 1 ≤ (nth h.l j).f∧(nth h.l j).f + (nth h.l j).p ≤ h.n)) ↔ b=true):=Lib.hid ⟨fun e=>HB.out.2 ⟨q1,q2,q3,q4,q5,hz,e.1,e.2⟩,fun e=>⟨(HB.out.1 e).used,(HB.out.1 e).in_⟩⟩
       clear q1 q2 q3 q5 e1 hb hm hz
       go_enter Tryz.func95,Tryz.ntmps95
       go_wp2_with (first
        | (go_at_call 174;refine (HA.out _).mono ?_;rintro e w1 ⟨rfl,hb_w1⟩;obtain ⟨hc_w1,hf_w1⟩:=bcell hb_w1;have hz_w1_w_0:w.heap.size < w1.heap.size:=lY hb_w1.size;have hs_w1:=hb_w1.size;(try simp only [zZ] at hs_w1))
        | (go_at_call 166;refine (HP.out _ (hU.later bX)).mono ?_;rintro e w2 ⟨rfl,hb_w2⟩;obtain ⟨hc_w2,hf_w2⟩:=bcell hb_w2;have hz_w2_w_0:w.heap.size < w2.heap.size:=lY hb_w2.size;have hs_w2:=hb_w2.size;(try simp only [zZ] at hs_w2))
        | (go_at_call 162;refine (HS.out _ (hV.later bX)).mono ?_;rintro e w3 ⟨rfl,hb_w3⟩;obtain ⟨hc_w3,hf_w3⟩:=bcell hb_w3;have hz_w3_w_0:w.heap.size < w3.heap.size:=lY hb_w3.size;have hs_w3:=hb_w3.size;(try simp only [zZ] at hs_w3))
        | (go_at_call 107;refine (HI.out _ (hU.later bX)).mono ?_;rintro e w4 ⟨rfl,hb_w4⟩;obtain ⟨hc_w4,hf_w4⟩:=bcell hb_w4;have hz_w4_w_0:w.heap.size < w4.heap.size:=lY hb_w4.size;have hs_w4:=hb_w4.size;(try simp only [zZ] at hs_w4)))
       have X4:HbV w4 w.heap.size ⟨vA,vca,vU,vcu,vV,vcv⟩ h:=X0.later bX
       have b4:Below w.heap.size w w4:=bX
       have hs4:=X4.lt
       clear X0 hb_w1 hb_w2 hb_w3 hb_w4 hc_w1 hf_w1 hc_w2 hf_w2 hc_w3 hf_w3 hc_w4 hf_w4
       unfold HbV at X4
       simp only at X4
       go_loopw [3] (fun iv wr=>∃ i:Nat,iv=.int .i64 (i:Nat)∧1 ≤ i∧(i:Int) ≤ h.n∧Hid (∀ j:Nat,1 ≤ j → j < i → tb h.us j=anyB h.l j h.l.length)∧Hb wr w.heap.size vA h.ws.length vca h.n vU h.us.length vcu vV h.l.length vcv∧Below w.heap.size w wr) (fun iv _=>h.n.toNat - (intOf iv).toNat)
       case atStart=>exact ⟨1,rfl,Nat.le_refl _,by omega,Lib.hid (by intro j h1 h2;omega),X4,b4⟩
       case round=>
        clear X4 b4 hs4
        obtain ⟨i,rfl,hi1,hin,HD,X,hb_wr⟩:=hrel
        have hsr:=hb_wr.size
        have hlt:=X.lt
        obtain ⟨x0,x1,x2,x3⟩:=id X
        by_cases hi:(i:Int) < h.n
        ·have g1:decide ((i:Int) < h.n)=true:=decide_eq_true hi
         go_wp2_with fail
         clear x0 x1 x2 x3
         generalize wr=wA at *
         go_loopw [4,60] (fun sv kv wr=>∃ k:Nat,sv=.bool (anyB h.l i k)∧kv=.int .i64 (k:Nat)∧k ≤ h.l.length∧Hb wr w.heap.size vA h.ws.length vca h.n vU h.us.length vcu vV h.l.length vcv∧Below w.heap.size w wr) (fun sv kv _=>h.l.length - (intOf kv).toNat)
         case atStart=>exact ⟨0,rfl,rfl,Nat.zero_le _,X,hb_wr⟩
         case round=>
          clear X hb_wr hsr hlt
          obtain ⟨k,rfl,rfl,hk,X,hb_wr⟩:=hrel
          have hsr:=hb_wr.size
          have hlt:=X.lt
          obtain ⟨x0,x1,x2,x3⟩:=id X
          by_cases hkl:k < h.l.length
          ·obtain ⟨g,off,hAe,hg,hc⟩:=hV.at_ (by omega)
           obtain ⟨Aa,ca,Am,cm,c8,_,_⟩:=hc k hkl
           have o1:=HO.out.at_ hkl
           have hSU:Hid (anyB h.l i (k + 1)=(anyB h.l i k || (decide ((nth h.l k).f ≤ (i:Int)) && decide ((i:Int) < (nth h.l k).f + (nth h.l k).p)))):=Lib.hid rfl
           have p1:=o1.placed.1
           have p2:=o1.placed.2
           have ss:=o1.sized.slots
           obtain ⟨d,hd⟩:∃ d,Hid (nth h.l k=d):=⟨_,rfl⟩
           rw [hd.out] at c8 hSU p1 p2 ss
           have c9:=c8.below hb_wr hg
           obtain ⟨s0,s1,s2,s3,s4,s5,s6,s7⟩:=id c9
           have i1:(k:Int) < (h.l.length:Int):=by omega
           have i2:(0:Int) ≤ (k:Int):=by omega
           have hadd:IntKind.i64.wrap (d.f + d.p)=d.f + d.p:=by rw [IntKind.wrap_i64];omega
           have aS:Below wr.heap.size wr (wr.alloc (.cells #[.int .i64 d.f,.int .i64 d.p,.int .i64 d.z,.int .i64 d.an,.slice Aa d.aw.length ca,.int .i64 d.mn,.slice Am d.mw.length cm,.bool d.s] 99)):=Below.alloc (Below.refl _ _) (Nat.le_refl _) _
           have X2:=X.later aS
           have b2:=hb_wr.trans (aS.mono hsr)
           subst hAe
           clear hc c8 c9 o1 X hd aS
           generalize hs:anyB h.l i k=s at *
           cases s
           ·by_cases hf:d.f ≤ (i:Int)
            ·have f1:decide (d.f ≤ (i:Int))=true:=decide_eq_true hf
             by_cases hp:(i:Int) < d.f + d.p
             ·have f2:decide ((i:Int) < d.f + d.p)=true:=decide_eq_true hp
              have hN:Hid (anyB h.l i (k + 1)=true):=Lib.hid (by rw [hSU.out,f1,f2];rfl)
              clear hSU hs hf hp
              go_wp2
              go_roundw
              case rel=>exact ⟨k + 1,by rw [hN.out],by go_num,by omega,X2,b2⟩
              case measure=>simp [intOf];omega
             ·have f2:decide ((i:Int) < d.f + d.p)=false:=decide_eq_false hp
              have hN:Hid (anyB h.l i (k + 1)=false):=Lib.hid (by rw [hSU.out,f1,f2];rfl)
              clear hSU hs hf hp
              go_wp2
              go_roundw
              case rel=>exact ⟨k + 1,by rw [hN.out],by go_num,by omega,X2,b2⟩
              case measure=>simp [intOf];omega
            ·have f1:decide (d.f ≤ (i:Int))=false:=decide_eq_false hf
             have hN:Hid (anyB h.l i (k + 1)=false):=Lib.hid (by rw [hSU.out,f1];rfl)
             clear hSU hs hf
             go_wp2
             go_roundw
             case rel=>exact ⟨k + 1,by rw [hN.out],by go_num,by omega,X2,b2⟩
             case measure=>simp [intOf];omega
           ·have hN:Hid (anyB h.l i (k + 1)=true):=Lib.hid (by rw [hSU.out];rfl)
            clear hSU hs
            go_wp2
            go_roundw
            case rel=>exact ⟨k + 1,by rw [hN.out],by go_num,by omega,X2,b2⟩
            case measure=>simp [intOf];omega
          ·obtain rfl:k=h.l.length:=by omega
           have HI2:=Lib.hid fun (w:World) hr=>is_any (A:=vU) (ws:=h.us) (w:=w) (i:Nat) h.n vcu hr (by omega) (by have:=HR.out.2.2.1;omega) (by have:=HR.out.2.2.1;omega)
           simp only [Int.toNat_natCast] at HI2
           by_cases he:tb h.us i=anyB h.l i h.l.length
           ·have HD2:Hid (∀ j:Nat,1 ≤ j → j < i + 1 → tb h.us j=anyB h.l j h.l.length):=Lib.hid fun j h1 h2=>by
             by_cases e:j=i
             ·rw [e];exact he
             ·exact HD.out j h1 (by omega)
            rw [he] at HI2
            have d9:(anyB h.l i h.l.length != anyB h.l i h.l.length)=false:=by simp
            clear HD he
            go_wp2_with fail
            go_at_call 107
            refine (HI2.out _ (hU.later bX)).mono ?_
            rintro e w5 ⟨rfl,hb_w5⟩
            have X5:=X.later hb_w5
            have b5:=hb_wr.trans (hb_w5.mono hsr)
            clear x0 x1 x2 x3
            obtain ⟨x0,x1,x2,x3⟩:=id X5
            go_wp2
            exact ⟨⟨i + 1,by go_num,by omega,by omega,HD2,X5,b5⟩,by simp [intOf];omega⟩
           ·obtain rfl:b=false:=by
             rcases b with _ | _
             ·rfl
             ·exact absurd ((HF.out.2 rfl).1 i hi1 hi) he
            clear HD
            generalize tb h.us i=u at *
            generalize anyB h.l i h.l.length=z at *
            cases u <;> cases z
            ·exact absurd rfl he
            ·clear he
             go_wp2_with fail
             go_at_call 107
             refine (HI2.out _ (hU.later bX)).mono ?_
             rintro e w5 ⟨rfl,hb_w5⟩
             have X5:=X.later hb_w5
             have b5:=hb_wr.trans (hb_w5.mono hsr)
             clear x0 x1 x2 x3
             obtain ⟨x0,x1,x2,x3⟩:=id X5
             go_wp2
             go_ret
             exact ⟨rfl,b5⟩
            ·clear he
             go_wp2_with fail
             go_at_call 107
             refine (HI2.out _ (hU.later bX)).mono ?_
             rintro e w5 ⟨rfl,hb_w5⟩
             have X5:=X.later hb_w5
             have b5:=hb_wr.trans (hb_w5.mono hsr)
             clear x0 x1 x2 x3
             obtain ⟨x0,x1,x2,x3⟩:=id X5
             go_wp2
             go_ret
             exact ⟨rfl,b5⟩
            ·exact absurd rfl he
        ·have g1:decide ((i:Int) < h.n)=false:=decide_eq_false hi
         have HU:Hid (∀ j:Nat,1 ≤ j → (j:Int) < h.n → tb h.us j=anyB h.l j h.l.length):=Lib.hid fun j h1 h2=>HD.out j h1 (by omega)
         clear HD
         go_wp2_with fail
         clear x0 x1 x2 x3
         generalize wr=wA at *
         go_loopw [91] (fun kv wr=>∃ k:Nat,kv=.int .i64 (k:Nat)∧k ≤ h.l.length∧Hid (∀ j,j < k → 1 ≤ (nth h.l j).f∧(nth h.l j).f + (nth h.l j).p ≤ h.n)∧Hb wr w.heap.size vA h.ws.length vca h.n vU h.us.length vcu vV h.l.length vcv∧Below w.heap.size w wr) (fun kv _=>h.l.length - (intOf kv).toNat)
         case atStart=>exact ⟨0,rfl,Nat.zero_le _,Lib.hid (by intro j hj;omega),X,hb_wr⟩
         case round=>
          clear X hb_wr hsr hlt
          obtain ⟨k,rfl,hk,HD,X,hb_wr⟩:=hrel
          have hsr:=hb_wr.size
          have hlt:=X.lt
          obtain ⟨x0,x1,x2,x3⟩:=id X
          by_cases hkl:k < h.l.length
          ·obtain ⟨g,off,hAe,hg,hc⟩:=hV.at_ (by omega)
           obtain ⟨Aa,ca,Am,cm,c8,_,_⟩:=hc k hkl
           have o1:=HO.out.at_ hkl
           have p1:=o1.placed.1
           have p2:=o1.placed.2
           have ss:=o1.sized.slots
           obtain ⟨d,hd⟩:∃ d,Hid (nth h.l k=d):=⟨_,rfl⟩
           rw [hd.out] at c8 p1 p2 ss
           have c9:=c8.below hb_wr hg
           obtain ⟨s0,s1,s2,s3,s4,s5,s6,s7⟩:=id c9
           have i1:(k:Int) < (h.l.length:Int):=by omega
           have i2:(0:Int) ≤ (k:Int):=by omega
           have hadd:IntKind.i64.wrap (d.f + d.p)=d.f + d.p:=by rw [IntKind.wrap_i64];omega
           have aS:Below wr.heap.size wr (wr.alloc (.cells #[.int .i64 d.f,.int .i64 d.p,.int .i64 d.z,.int .i64 d.an,.slice Aa d.aw.length ca,.int .i64 d.mn,.slice Am d.mw.length cm,.bool d.s] 99)):=Below.alloc (Below.refl _ _) (Nat.le_refl _) _
           have X2:=X.later aS
           have b2:=hb_wr.trans (aS.mono hsr)
           subst hAe
           clear hc c8 c9 o1 X aS
           by_cases hf:d.f < 1
           ·have f1:decide (d.f < 1)=true:=decide_eq_true hf
            obtain rfl:b=false:=by
             rcases b with _ | _
             ·rfl
             ·have:=(HF.out.2 rfl).2 k hkl;rw [hd.out] at this;omega
            clear hf
            go_wp2
            go_ret
            exact ⟨rfl,b2⟩
           ·have f1:decide (d.f < 1)=false:=decide_eq_false hf
            by_cases hp:h.n < d.f + d.p
            ·have f2:decide (h.n < d.f + d.p)=true:=decide_eq_true hp
             obtain rfl:b=false:=by
              rcases b with _ | _
              ·rfl
              ·have:=(HF.out.2 rfl).2 k hkl;rw [hd.out] at this;omega
             clear hf hp
             go_wp2
             go_ret
             exact ⟨rfl,b2⟩
            ·have f2:decide (h.n < d.f + d.p)=false:=decide_eq_false hp
             have HD2:Hid (∀ j,j < k + 1 → 1 ≤ (nth h.l j).f∧(nth h.l j).f + (nth h.l j).p ≤ h.n):=Lib.hid fun j hj=>by
              by_cases e:j=k
              ·rw [e,hd.out];omega
              ·exact HD.out j (by omega)
             clear hf hp HD hd
             go_wp2
             go_roundw
             case rel=>exact ⟨k + 1,by go_num,by omega,HD2,X2,b2⟩
             case measure=>simp [intOf];omega
          ·obtain rfl:k=h.l.length:=by omega
           obtain rfl:b=true:=HF.out.1 ⟨HU.out,HD.out⟩
           go_wp2
           go_ret
           exact ⟨rfl,hb_wr⟩
     ·have d5:((h.ws.length:Int) != h.n * 16)=true:=by simpa using q5
      obtain rfl:b=false:=bool_false HB.out (fun d=>q5 d.long)
      clear q1 q2 q3 e1
      clear hb hm X0
      go_enter Tryz.func95,Tryz.ntmps95
      go_wp2_with (first
       | (go_at_call 174;refine (HA.out _).mono ?_;rintro e w1 ⟨rfl,hb_w1⟩;obtain ⟨hc_w1,hf_w1⟩:=bcell hb_w1;have hz_w1_w_0:w.heap.size < w1.heap.size:=lY hb_w1.size;have hs_w1:=hb_w1.size;(try simp only [zZ] at hs_w1))
       | (go_at_call 166;refine (HP.out _ (hU.later bX)).mono ?_;rintro e w2 ⟨rfl,hb_w2⟩;obtain ⟨hc_w2,hf_w2⟩:=bcell hb_w2;have hz_w2_w_0:w.heap.size < w2.heap.size:=lY hb_w2.size;have hs_w2:=hb_w2.size;(try simp only [zZ] at hs_w2))
       | (go_at_call 162;refine (HS.out _ (hV.later bX)).mono ?_;rintro e w3 ⟨rfl,hb_w3⟩;obtain ⟨hc_w3,hf_w3⟩:=bcell hb_w3;have hz_w3_w_0:w.heap.size < w3.heap.size:=lY hb_w3.size;have hs_w3:=hb_w3.size;(try simp only [zZ] at hs_w3)))
      go_ret
      exact ⟨rfl,bX⟩
    ·have d4:decide (h.n < 1)=true:=decide_eq_true (by omega)
     obtain rfl:b=false:=bool_false HB.out (fun d=>q4 d.some_)
     clear q1 q2 q3 e1
     clear hb hm X0
     go_enter Tryz.func95,Tryz.ntmps95
     go_wp2_with (first
      | (go_at_call 174;refine (HA.out _).mono ?_;rintro e w1 ⟨rfl,hb_w1⟩;obtain ⟨hc_w1,hf_w1⟩:=bcell hb_w1;have hz_w1_w_0:w.heap.size < w1.heap.size:=lY hb_w1.size;have hs_w1:=hb_w1.size;(try simp only [zZ] at hs_w1))
      | (go_at_call 166;refine (HP.out _ (hU.later bX)).mono ?_;rintro e w2 ⟨rfl,hb_w2⟩;obtain ⟨hc_w2,hf_w2⟩:=bcell hb_w2;have hz_w2_w_0:w.heap.size < w2.heap.size:=lY hb_w2.size;have hs_w2:=hb_w2.size;(try simp only [zZ] at hs_w2))
      | (go_at_call 162;refine (HS.out _ (hV.later bX)).mono ?_;rintro e w3 ⟨rfl,hb_w3⟩;obtain ⟨hc_w3,hf_w3⟩:=bcell hb_w3;have hz_w3_w_0:w.heap.size < w3.heap.size:=lY hb_w3.size;have hs_w3:=hb_w3.size;(try simp only [zZ] at hs_w3)))
     go_ret
     exact ⟨rfl,bX⟩
   ·have HS:=Lib.hid fun (w:World) hv=>xcheckL_any (w:=w) (A:=vV) (l:=h.l) vcv hv h2 2 (.inr ⟨q3,rfl⟩)
    obtain rfl:b=false:=bool_false HB.out (fun d=>q3 d.spans)
    clear q1 q2 e1
    clear hb hm X0
    go_enter Tryz.func95,Tryz.ntmps95
    go_wp2_with (first
     | (go_at_call 174;refine (HA.out _).mono ?_;rintro e w1 ⟨rfl,hb_w1⟩;obtain ⟨hc_w1,hf_w1⟩:=bcell hb_w1;have hz_w1_w_0:w.heap.size < w1.heap.size:=lY hb_w1.size;have hs_w1:=hb_w1.size;(try simp only [zZ] at hs_w1))
     | (go_at_call 166;refine (HP.out _ (hU.later bX)).mono ?_;rintro e w2 ⟨rfl,hb_w2⟩;obtain ⟨hc_w2,hf_w2⟩:=bcell hb_w2;have hz_w2_w_0:w.heap.size < w2.heap.size:=lY hb_w2.size;have hs_w2:=hb_w2.size;(try simp only [zZ] at hs_w2))
     | (go_at_call 162;refine (HS.out _ (hV.later bX)).mono ?_;rintro e w3 ⟨rfl,hb_w3⟩;obtain ⟨hc_w3,hf_w3⟩:=bcell hb_w3;have hz_w3_w_0:w.heap.size < w3.heap.size:=lY hb_w3.size;have hs_w3:=hb_w3.size;(try simp only [zZ] at hs_w3)))
    go_ret
    exact ⟨rfl,bX⟩
  ·have HP:=Lib.hid fun (w:World) hu=>rpcheck_bad (w:=w) (n:=h.n) (A:=vU) (ws:=h.us) vcu hu q2
   obtain rfl:b=false:=bool_false HB.out (fun d=>q2 d.pages)
   clear q1 e1
   clear hb hm X0
   go_enter Tryz.func95,Tryz.ntmps95
   go_wp2_with (first
    | (go_at_call 174;refine (HA.out _).mono ?_;rintro e w1 ⟨rfl,hb_w1⟩;obtain ⟨hc_w1,hf_w1⟩:=bcell hb_w1;have hz_w1_w_0:w.heap.size < w1.heap.size:=lY hb_w1.size;have hs_w1:=hb_w1.size;(try simp only [zZ] at hs_w1))
    | (go_at_call 166;refine (HP.out _ (hU.later bX)).mono ?_;rintro e w2 ⟨rfl,hb_w2⟩;obtain ⟨hc_w2,hf_w2⟩:=bcell hb_w2;have hz_w2_w_0:w.heap.size < w2.heap.size:=lY hb_w2.size;have hs_w2:=hb_w2.size;(try simp only [zZ] at hs_w2)))
   go_ret
   exact ⟨rfl,bX⟩
 ·have e1:errA h.ws True=2:=(resA_bad (us:=[]) (p:=True) q1).2
  rw [e1] at HA
  obtain rfl:b=false:=bool_false HB.out (fun d=>q1 d.words)
  clear e1
  clear hb hm X0
  go_enter Tryz.func95,Tryz.ntmps95
  go_wp2_with (first
   | (go_at_call 174;refine (HA.out _).mono ?_;rintro e w1 ⟨rfl,hb_w1⟩;obtain ⟨hc_w1,hf_w1⟩:=bcell hb_w1;have hz_w1_w_0:w.heap.size < w1.heap.size:=lY hb_w1.size;have hs_w1:=hb_w1.size;(try simp only [zZ] at hs_w1)))
  go_ret
  exact ⟨rfl,bX⟩
def inO (o:Ob) (i:Nat):Bool:=decide (o.a ≤ i) && decide (i < o.a + (o.n.toNat + 1))
def thB (os:List Ob) (i:Nat):Bool:=os.any fun o=>inO o i
theorem thB_iff (os:List Ob) (i:Nat):thB os i=true ↔ Theirs os i:=by
 unfold thB Theirs inO
 rw [List.any_eq_true]
 constructor
 ·rintro ⟨o,ho,h⟩
  rw [Bool.and_eq_true,decide_eq_true_eq,decide_eq_true_eq] at h
  exact ⟨o,ho,by omega⟩
 ·rintro ⟨o,ho,h⟩
  refine ⟨o,ho,?_⟩
  rw [Bool.and_eq_true,decide_eq_true_eq,decide_eq_true_eq]
  omega
def thK (os:List Ob) (o:Ob) (k:Nat) (i:Nat):Bool:=thB os i || (decide (o.a ≤ i) && decide (i < o.a + k))
theorem thK_zero (os:List Ob) (o:Ob):thK os o 0=thB os:=by
 funext i
 unfold thK
 rcases h:(decide (o.a ≤ i) && decide (i < o.a + 0)) with _ | _
 ·simp
 ·rw [Bool.and_eq_true,decide_eq_true_eq,decide_eq_true_eq] at h
  omega
theorem thK_succ (os:List Ob) (o:Ob) (k:Nat):thK os o (k + 1)=fun i=>if i=o.a + k then true else thK os o k i:=by
 funext i
 unfold thK
 by_cases h:i=o.a + k
 ·rw [if_pos h]
  have h1:decide (o.a ≤ i)=true:=decide_eq_true (by omega)
  have h2:decide (i < o.a + (k + 1))=true:=decide_eq_true (by omega)
  rw [h1,h2];simp
 ·rw [if_neg h]
  have h2:decide (i < o.a + (k + 1))=decide (i < o.a + k):=by rw [decide_eq_decide];omega
  rw [h2]
theorem thK_all (os:List Ob) (o:Ob):thK os o (o.n.toNat + 1)=thB (os ++ [o]):=by
 funext i
 unfold thK thB inO
 rw [List.any_append]
 simp
def FdO (os:List Ob) (x:Nat):Prop:=x=0 ∨ ∃ o ∈ os,o.a=x∧o.c=true
def LkO (ws:List Nat) (os:List Ob) (o:Ob) (F:Nat):Prop:=o.c=true → ∀ f:Nat,f < F → o.m.testBit f=true → FdO os (ws.getD (o.a + 1 + f) 0)
theorem LkO.step {ws:List Nat} {os:List Ob} {o:Ob} {F:Nat} (h:LkO ws os o F) (hk:o.c=true → o.m.testBit F=true → FdO os (ws.getD (o.a + 1 + F) 0)):LkO ws os o (F + 1):=fun hc f hf hb=>by
 by_cases e:f=F
 ·subst e;exact hk hc hb
 ·exact h hc f (by omega) hb
theorem fdO_cur {h:Hp} (hl:OkL h.l) (x:Nat):FdO (obsH h) x ↔ (x=0 ∨ Cur h x):=by
 unfold FdO
 rw [← mem_addrs hl]
 unfold addrs cursH
 rw [List.mem_map]
 constructor
 ·rintro (h1 | ⟨o,h1,h2,h3⟩)
  ·exact .inl h1
  ·exact .inr ⟨o,List.mem_filter.2 ⟨h1,by simpa using h3⟩,h2⟩
 ·rintro (h1 | ⟨o,h1,h2⟩)
  ·exact .inl h1
  ·have h3:=List.mem_filter.1 h1
   exact .inr ⟨o,h3.1,h2,by simpa using h3.2⟩
theorem linkedO_iff {h:Hp} (hl:OkL h.l):Linked h ↔ ∀ o ∈ obsH h,LkO h.ws (obsH h) o o.n.toNat:=by
 constructor
 ·intro hk o ho hc f hf hb
  have h1:=hk o (List.mem_filter.2 ⟨ho,by simpa using hc⟩) f (by omega) hb
  rw [leads_iff hl] at h1
  exact (fdO_cur hl _).2 h1
 ·intro hk o ho f hf hb
  have h3:=List.mem_filter.1 ho
  rw [leads_iff hl]
  exact (fdO_cur hl _).1 (hk o h3.1 (by simpa using h3.2) f (by omega) hb)
theorem fdE_fdO {os:List Ob} {a:Nat} {r:Ob} {b:Bool} (h:FdE os a r b) (ha:a ≠ 0):b=true ↔ FdO os a:=by
 rcases h with ⟨rfl,_,h⟩ | ⟨rfl,k,hk,h1,h2,h3,_⟩
 ·constructor
  ·intro e;cases e
  ·rintro (e | ⟨o,ho,e⟩)
   ·exact absurd e ha
   ·exact absurd e (h o ho)
 ·exact ⟨fun _=>.inr ⟨os[k],List.getElem_mem hk,by rw [h1];exact h2,by rw [h1];exact h3⟩,fun _=>rfl⟩
structure BRow (w:World) (b n:Nat) (T:Nat → Bool):Prop where
 lt:b < w.heap.size
 at_:∀ i,i < n → w.cell? ⟨b,i,none⟩=some (.bool (T i))∧w.frozen? ⟨b,i,none⟩=false
theorem BRow.below {w w':World} {B b n:Nat} {T:Nat → Bool} (h:BRow w b n T) (hb:Below B w w') (hB:b < B):BRow w' b n T:=
 ⟨Nat.lt_of_lt_of_le h.lt hb.size,fun i hi=>⟨((bcell hb).1 _ _ hB).trans (h.at_ i hi).1,((bcell hb).2 _ _ hB).trans (h.at_ i hi).2⟩⟩
theorem BRow.later {w w':World} {b n:Nat} {T:Nat → Bool} (h:BRow w b n T) (hb:Below w.heap.size w w'):BRow w' b n T:=h.below hb h.lt
theorem BRow.set {w:World} {b n:Nat} {T:Nat → Bool} (h:BRow w b n T) {j:Nat} (hj:j < n) (v:Bool):BRow (w.setCell ⟨b,j,none⟩ (.bool v)) b n (fun i=>if i=j then v else T i):=
 ⟨by rw [World.size_setCell];exact h.lt,fun i hi=>⟨by
  by_cases e:i=j
  ·subst e
   simp only [if_true]
   exact World.cell?_setCell_same _ _ _ (h.at_ i hi).1
  ·simp only [if_neg e]
   exact (cO _ ⟨b,j,none⟩ ⟨b,i,none⟩ _ (by intro e2;injection e2 with _ e2;exact e e2.symm)).trans (h.at_ i hi).1,by rw [World.frozen?_setCell];exact (h.at_ i hi).2⟩⟩
def boolz (n:Nat):List Value:=List.replicate n (.bool false)
theorem info_bool:(Tryz.prog.info? 4).map (fun i=>(i.zero,i.size,i.bytes))=some (some (.bool false),1,1):=by kernel_rfl
theorem run_make_boolz (n:Nat) (hn:n ≤ 16384) (W:World) :
  (Instr.makeSlice 91 (.int .i64 (n:Int)) (.int .i64 (n:Int))).run Tryz.prog W=.ok (.slice (some ⟨W.heap.size,0,none⟩) n n) (W.alloc (.cells (boolz n).toArray 4)):=by
 obtain ⟨i0,hi,hz0,hz1,hz2⟩:=info_parts info_bool
 have h:=run_make (P:=Tryz.prog) W 91 4 i0 _ Tryz.underlying91 hi hz0 .i64 .i64 (n:Int) (n:Int) (by omega) (by omega) (by rw [hz2];omega) (by omega)
 rw [h,hz1,Nat.mul_one,Int.toNat_natCast]
 have e:madeCells #[Value.bool false] n=(boolz n).toArray:=by
  apply Array.ext'
  rw [toList_madeCells_one]
  simp [boolz]
 show _=Result.ok _ (World.alloc W (.cells (boolz n).toArray 4))
 rw [← e]
 rfl
theorem BRow.of_block {w:World} {b n:Nat} (h:w.heap[b]?=some (.cells (boolz n).toArray 4 (0,0))):BRow w b n (fun _=>false):=
 ⟨heap_lt h,fun i hi=>⟨by rw [cell_of_row w b i _ _ (0,0) h,List.getElem?_toArray];unfold boolz;rw [List.getElem?_replicate,if_pos hi],by simp [World.frozen?,h]⟩⟩
theorem BRow.new (w:World) (n:Nat):BRow (w.alloc (.cells (boolz n).toArray 4)) w.heap.size n (fun _=>false):=BRow.of_block (heap_alloc_new w _)
theorem fnO_none {h:Hp} {a:Nat} (hy:fnY h a ≠ 0):fnO h a=obZ:=by
 unfold fnO
 by_cases h0:hin (addrs (cursH h)) a=0
 ·rw [if_pos h0];rfl
 ·exfalso
  have h1:=(hin_mem _ _).1 h0
  apply hy
  unfold fnY
  rw [if_neg h1.1,if_neg h0]
theorem fdE_fn {h:Hp} (hk:OkH h) {a:Nat} (ha:a ≠ 0) {r:Ob} {b:Bool} (hE:FdE (obsH h) a r b):r=fnO h a∧((b=true∧fnY h a=0) ∨ (b=false∧fnY h a=10)):=by
 have hb:=fdE_fdO hE ha
 rw [fdO_cur hk.framed.spans] at hb
 rcases fnY_of hk a with ⟨h0,_⟩ | ⟨_,h1,h2⟩ | ⟨_,h1,h2⟩
 ·exact absurd h0 ha
 ·have hbf:b=false:=by
   rcases b with _ | _
   ·rfl
   ·rcases hb.1 rfl with e | e
    ·exact absurd e ha
    ·exact absurd e h1
  refine ⟨?_,.inr ⟨hbf,h2⟩⟩
  rw [fnO_none (by rw [h2];decide)]
  rcases hE with ⟨_,e,_⟩ | ⟨e,_⟩
  ·exact e
  ·rw [hbf] at e;cases e
 ·have hbt:b=true:=hb.2 (.inr h1)
  refine ⟨?_,.inl ⟨hbt,h2⟩⟩
  rcases hE with ⟨e,_⟩ | ⟨_,k,hk',e1,e2,e3,_⟩
  ·rw [hbt] at e;cases e
  ·have hr:r ∈ cursH h:=List.mem_filter.2 ⟨by rw [← e1];exact List.getElem_mem hk',by simpa using e3⟩
   have:=(fnO_at hk hr).1
   rw [e2] at this
   exact this.symm
theorem obsH_len {h:Hp} (hl:OkL h.l):(obsH h).length ≤ 2048:=by
 have h1:=obsL_len (ws:=h.ws) hl (Nat.le_refl h.l.length)
 have h3:=hl.1
 unfold obsH
 omega
theorem flatX_cons (o:Ob) (l:List Ob):flatX (o :: l)=cellsX o ++ flatX l:=by unfold flatX;rw [List.flatMap_cons]
theorem flatX_at (l:List Ob) (i j:Nat) (hj:j < 6):(flatX l)[i * 6 + j]?=l[i]?.bind fun o=>(cellsX o)[j]?:=by
 induction l generalizing i with
 | nil=>simp [flatX]
 | cons o l ih=>
  cases i with
  | zero=>
   rw [flatX_cons,List.getElem?_append_left (by simp [cellsX];omega)]
   simp
  | succ i=>
   rw [flatX_cons,List.getElem?_append_right (by simp [cellsX];omega)]
   have:(i + 1) * 6 + j - (cellsX o).length=i * 6 + j:=by simp [cellsX];omega
   rw [this,ih]
   simp
theorem XRow.of {w:World} {B n cap:Nat} {A:Option Addr} {os:List Ob} (h:w.ownsRow B 156 6 (.slice A n cap) n (flatX os)) (hn:os.length=n):XRow w w.heap.size A os:=⟨fun hl=>by
 obtain ⟨_,⟨h1,h2⟩ | ⟨g,cap',cur,e,_⟩⟩:=id h
 ·omega
 ·injection e with e1 _ e3
  subst e1
  refine ⟨g,0,rfl,(h.lt g rfl).2,fun i hi=>?_⟩
  have k:∀ j,j < 6 → ∀ u,(cellsX os[i])[j]?=some u → w.cell? ⟨g,0 + i * 6 + j,none⟩=some u:=fun j hj u hu=>by
   rw [Nat.zero_add,h.cellAt (i * 6 + j) (by omega),flatX_at os i j hj,List.getElem?_eq_getElem hi]
   exact hu
  exact ⟨k 0 (by omega) _ rfl,k 1 (by omega) _ rfl,k 2 (by omega) _ rfl,k 3 (by omega) _ rfl,k 4 (by omega) _ rfl,k 5 (by omega) _ rfl⟩⟩
theorem heads_ob {h:Hp} (hf:Framed h) (ho:Owned h) (hs:Heads h) {o:Ob} (hm:o ∈ obsH h):16 ≤ o.a∧o.a + o.n.toNat + 1 ≤ h.ws.length∧0 ≤ o.n∧o.n ≤ 48∧o.m < W64:=by
 obtain ⟨j,k,h1,h2,h3,rfl⟩:=mem_obsL hm
 have ok:=hf.spans.at_ h1
 obtain ⟨hu,hfit⟩:=hs j h1 k h2 h3
 obtain ⟨b0,b1⟩:=unN_bounds (h.ws.getD (slA (nth h.l j) k) 0)
 have hr:=szn_room b0 b1 hfit
 have hin:=ok.slA_in h2
 have hw:=ho.in_ j h1
 have hl:=hf.long
 have hsz:=ok.sized.slots
 refine ⟨?_,?_,b0,b1,unM_lt _⟩
 ·show 16 ≤ slA (nth h.l j) k
  omega
 ·show slA (nth h.l j) k + (unN (h.ws.getD (slA (nth h.l j) k) 0)).toNat + 1 ≤ h.ws.length
  omega
theorem Six.far {w:World} {b:Nat} {v0 v1 v2 v3 v4 v5:Value} (h:Six w b v0 v1 v2 v3 v4 v5) {p:Addr} (hp:p.block ≠ b) (u:Value):Six (w.setCell p u) b v0 v1 v2 v3 v4 v5:=by
 have k:∀ i,(w.setCell p u).cell? ⟨b,i,none⟩=w.cell? ⟨b,i,none⟩:=fun i=>cO _ _ _ _ (by intro e;exact hp (by rw [e]))
 exact ⟨(k _).trans h.c0,(k _).trans h.c1,(k _).trans h.c2,(k _).trans h.c3,(k _).trans h.c4,(k _).trans h.c5,fun i=>by simp only [World.frozen?_setCell];exact h.f i⟩
set_option maxHeartbeats 4000000 in
theorem xfindO_any {w:World} {A:Option Addr} {os:List Ob} (cap:Nat) (hr:XRow w w.heap.size A os) (hl:os.length ≤ 100000) (a:Nat) (r:Ob) (b:Bool) (hE:FdE os a r b) :
  Calls Tryz.prog 98 #[.slice A os.length cap,.int .u64 (a:Nat)] w fun e w'=>e=.returned (.tuple #[obX r,.bool b])∧Below w.heap.size w w':=by
 have HE:=Lib.hid hE
 have Z0:=Six.new w (.int .i64 0) (.int .i64 0) (.int .u64 0) (.int .i64 0) (.int .u64 0) (.bool false) 156
 have b0:Below w.heap.size w (w.alloc (.cells #[.int .i64 0,.int .i64 0,.int .u64 0,.int .i64 0,.int .u64 0,.bool false] 156)):=Below.alloc (Below.refl _ _) (Nat.le_refl _) _
 clear hE
 unfold obX
 go_enter Tryz.func98,Tryz.ntmps98
 go_wp2_with fail
 go_loopw [10] (fun ii wr=>∃ k:Nat,ii=.int .i64 (k:Nat)∧k ≤ os.length∧(∀ j (hj:j < os.length),j < k → ¬ (os[j].a=a∧os[j].c=true))∧Six wr w.heap.size (.int .i64 0) (.int .i64 0) (.int .u64 0) (.int .i64 0) (.int .u64 0) (.bool false)∧Below w.heap.size w wr) (fun ii _=>os.length - (intOf ii).toNat)
 case atStart=>exact ⟨0,rfl,Nat.zero_le _,fun j _ hj=>absurd hj (Nat.not_lt_zero j),Z0,b0⟩
 case round=>
  clear Z0 b0
  obtain ⟨k,rfl,hk,hno,Z,hb⟩:=hrel
  have HN:=Lib.hid hno
  clear hno
  have hsz:=hb.size
  have hzl:=Z.lt
  by_cases hlt:k < os.length
  ·obtain ⟨g,off,rfl,hg,hc⟩:=hr.at_ (by omega)
   have x:=hc k hlt
   have q0:=((bcell hb).1 _ _ hg).trans x.c0
   have q1:=((bcell hb).1 _ _ hg).trans x.c1
   have q2:=((bcell hb).1 _ _ hg).trans x.c2
   have q3:=((bcell hb).1 _ _ hg).trans x.c3
   have q4:=((bcell hb).1 _ _ hg).trans x.c4
   have q5:=((bcell hb).1 _ _ hg).trans x.c5
   have HX:Hid (∃ o,os[k]=o):=Lib.hid ⟨_,rfl⟩
   obtain ⟨o,ho⟩:=HX.out
   have HO:=Lib.hid ho
   rw [ho] at q0 q1 q2 q3 q4 q5
   have i3:(k:Int) < (os.length:Int):=by omega
   have i4:(0:Int) ≤ (k:Int):=by omega
   have aS:Below wr.heap.size wr (wr.alloc (.cells #[.int .i64 o.i,.int .i64 o.k,.int .u64 o.a,.int .i64 o.n,.int .u64 o.m,.bool o.c] 156)):=Below.alloc (Below.refl _ _) (Nat.le_refl _) _
   have Z2:=Z.later aS
   have b2:=hb.trans (aS.mono hsz)
   clear hc x HX ho aS
   by_cases ha:o.a=a
   ·subst ha
    have d1:(((o.a:Nat):Int) == ((o.a:Nat):Int))=true:=by simp
    obtain hoc | hoc:o.c=false ∨ o.c=true:=by cases o.c <;> simp
    ·rw [hoc] at q5 Z2 b2
     have HC:=Lib.hid hoc
     clear hoc
     go_wp2
     go_roundw
     case rel=>exact ⟨k + 1,by go_num,by omega,fun j hj h1=>(by
      by_cases e:j=k
      ·subst e;rw [HO.out];intro h;rw [HC.out] at h;cases h.2
      ·exact HN.out j hj (by omega)),Z2,b2⟩
     case measure=>simp [intOf];omega
    ·rw [hoc] at q5 Z2 b2
     have HC:=Lib.hid hoc
     clear hoc
     obtain ⟨z0,z1,z2,z3,z4,z5,zf⟩:=id Z
     have f0:=zf 0
     have f1:=zf 1
     have f2:=zf 2
     have f3:=zf 3
     have f4:=zf 4
     have f5:=zf 5
     have hr0:r=o∧b=true:=by
      rcases HE.out with ⟨_,_,h⟩ | ⟨hb,q,hq,h1,h2,h3,h4⟩
      ·exact ((h o (by rw [← HO.out];exact List.getElem_mem hlt)) ⟨rfl,HC.out⟩).elim
      ·refine ⟨?_,hb⟩
       rcases Nat.lt_trichotomy q k with g1 | g1 | g1
       ·exact absurd ⟨by rw [h1];exact h2,by rw [h1];exact h3⟩ (HN.out q hq g1)
       ·subst g1;rw [← h1,HO.out]
       ·exact ((h4 k g1) ⟨by rw [HO.out],by rw [HO.out];exact HC.out⟩).elim
     obtain ⟨rfl,rfl⟩:=hr0
     have E9:=Z.all (.int .i64 r.i) (.int .i64 r.k) (.int .u64 r.a) (.int .i64 r.n) (.int .u64 r.m) (.bool true)
     have b9:=below_six hb (b:=w.heap.size) (Nat.le_refl _) (.int .i64 r.i) (.int .i64 r.k) (.int .u64 r.a) (.int .i64 r.n) (.int .u64 r.m) (.bool true)
     have E10:=E9.later (Below.alloc (Below.refl _ _) (Nat.le_refl _) (.cells #[.int .i64 r.i,.int .i64 r.k,.int .u64 r.a,.int .i64 r.n,.int .u64 r.m,.bool true] 156))
     have b10:=b9.alloc b9.size (.cells #[.int .i64 r.i,.int .i64 r.k,.int .u64 r.a,.int .i64 r.n,.int .u64 r.m,.bool true] 156)
     clear zf Z Z2 b2 E9 b9
     go_wp2
     exact bodyPost_ret (res_six2 rfl rfl E10) rfl ⟨(by rw [HC.out];rfl),b10⟩
   ·have d1:(((o.a:Nat):Int) == ((a:Nat):Int))=false:=by simp;omega
    go_wp2
    go_roundw
    case rel=>exact ⟨k + 1,by go_num,by omega,fun j hj h1=>(by
     by_cases e:j=k
     ·subst e;rw [HO.out];exact fun h=>ha h.1
     ·exact HN.out j hj (by omega)),Z2,b2⟩
    case measure=>simp [intOf];omega
  ·obtain rfl:k=os.length:=by omega
   have hr0:r=obZ∧b=false:=by
    rcases HE.out with ⟨h1,h2,_⟩ | ⟨_,q,hq,h1,h2,h3,_⟩
    ·exact ⟨h2,h1⟩
    ·exact absurd ⟨by rw [h1];exact h2,by rw [h1];exact h3⟩ (HN.out q hq hq)
   obtain ⟨rfl,rfl⟩:=hr0
   obtain ⟨z0,z1,z2,z3,z4,z5,zf⟩:=id Z
   have f0:=zf 0
   have f1:=zf 1
   have f2:=zf 2
   have f3:=zf 3
   have f4:=zf 4
   have f5:=zf 5
   have E9:=Z.all (.int .i64 0) (.int .i64 0) (.int .u64 0) (.int .i64 0) (.int .u64 0) (.bool false)
   have b9:=below_six hb (b:=w.heap.size) (Nat.le_refl _) (.int .i64 0) (.int .i64 0) (.int .u64 0) (.int .i64 0) (.int .u64 0) (.bool false)
   clear zf
   try unfold obZ
   go_wp2
   exact bodyPost_ret (res_six2 rfl rfl E9) rfl ⟨rfl,b9⟩
set_option maxHeartbeats 8000000 in
theorem xcheckH_any {w:World} {v:Hv} {h:Hp} (hm:HM w w.heap.size v h) (h2:h.l.length ≤ 17592186044416) (y:Int) (hy:(OkH h∧y=0) ∨ (¬ OkH h∧y=2)) :
  Calls Tryz.prog 22 #[hpV v h] w fun e w'=>e=.returned (.int .i64 y)∧Below w.heap.size w w':=by
 rw [← okD_iff] at hy
 have HY:Hid (OkD h → y=0):=Lib.hid fun k=>by rcases hy with ⟨_,e⟩ | ⟨e,_⟩;exact e;exact absurd k e
 have HN:Hid (¬ OkD h → y=2):=Lib.hid fun k=>by rcases hy with ⟨e,_⟩ | ⟨_,e⟩;exact absurd e k;exact e
 clear hy
 have X0:=Hb.new w v.A h.ws.length v.ca h.n v.U h.us.length v.cu v.V h.l.length v.cv 31
 have m1:HM (w.alloc (.cells #[.slice v.A h.ws.length v.ca,.int .i64 h.n,.slice v.U h.us.length v.cu,.slice v.V h.l.length v.cv] 31)) (w.alloc (.cells #[.slice v.A h.ws.length v.ca,.int .i64 h.n,.slice v.U h.us.length v.cu,.slice v.V h.l.length v.cv] 31)).heap.size v h:=hm.later bX
 by_cases qf:FrmD h
 ·obtain ⟨hF,hO⟩:=(frmD_iff h).1 qf
  have HFR:=Lib.hid fun (w:World) m=>xframed_any (w:=w) (v:=v) (h:=h) m h2 true (by simp [qf])
  by_cases qh:Heads h
  ·have HAL:=Lib.hid fun (w:World) m=>xall_any (w:=w) (v:=v) (h:=h) m hF hO true (by simp [qh])
   have HEN:Hid (Linked h → (∀ i,i < h.ws.length → ¬ Theirs (obsH h) i → h.ws.getD i 0=0) → y=0):=Lib.hid fun k1 k2=>HY.out ⟨hF,hO,qh,k2,k1⟩
   have HNL:Hid (¬ Linked h → y=2):=Lib.hid fun k=>HN.out fun d=>k d.linked
   have HNR:Hid (¬ (∀ i,i < h.ws.length → ¬ Theirs (obsH h) i → h.ws.getD i 0=0) → y=2):=Lib.hid fun k=>HN.out fun d=>k d.rest
   have HLK:=Lib.hid (linkedO_iff (h:=h) hF.spans)
   have HOB:=Lib.hid fun (o:Ob) (ho:o ∈ obsH h)=>heads_ob hF hO qh ho
   have hw16:=hF.words
   have hol:=obsH_len (h:=h) hF.spans
   have HWD:=Lib.hid hm.a.words
   have hA:=hm.a
   have hlw:0 < h.ws.length:=by have:=hF.long;have:=hF.some_;omega
   simp only [obsB] at HAL
   generalize obsH h=os at *
   have hmk:=run_make_boolz h.ws.length hw16
   clear HY HN qf qh hF hO h2
   obtain ⟨gA,oA,hAe,hgA,hcA⟩:=hA.at_ hlw
   unfold hpV hpv at HFR HAL ⊢
   obtain ⟨vA,vca,vU,vcu,vV,vcv⟩:=v
   simp only at *
   subst hAe
   obtain ⟨x0,x1,x2,x3⟩:=id X0
   go_enter Tryz.func22,Tryz.ntmps22
   go_wp2_with fail
   go_at_call 95
   refine (HFR.out _ (by exact m1)).mono ?_
   rintro e w1 ⟨rfl,hb_w1⟩
   have X1:=X0.later hb_w1
   have b1:Below w.heap.size w w1:=bX
   have m2:=m1.later hb_w1
   clear x0 x1 x2 x3 X0 m1 hb_w1
   obtain ⟨x0,x1,x2,x3⟩:=id X1
   go_wp2_with fail
   go_at_call 96
   refine (HAL.out _ (by exact m2)).mono ?_
   rintro e w2 ⟨Ao,co,rfl,hown,hb_w2⟩
   have X2:=X1.later hb_w2
   have b2:Below w.heap.size w w2:=b1.trans (hb_w2.mono b1.size)
   have hXR:=XRow.of hown rfl
   clear x0 x1 x2 x3 X1 m2 hb_w2 b1 hown
   obtain ⟨x0,x1,x2,x3⟩:=id X2
   have hxl:=X2.lt
   have hs2:=b2.size
   have b3:Below w2.heap.size w2 (w2.alloc (.cells (boolz h.ws.length).toArray 4)):=Below.alloc (Below.refl _ _) (Nat.le_refl _) _
   have T0:=BRow.new w2 h.ws.length
   go_wp2_with fail
   go_loopw [32] (fun jv wr=>∃ j:Nat,jv=.int .i64 (j:Nat)∧j ≤ os.length∧Hid (∀ i (hi:i < os.length),i < j → LkO h.ws os os[i] os[i].n.toNat)∧BRow wr w2.heap.size h.ws.length (thB (os.take j))∧Below w2.heap.size w2 wr) (fun jv _=>os.length - (intOf jv).toNat)
   case atStart=>exact ⟨0,rfl,Nat.zero_le _,Lib.hid (by intro i hi h;omega),T0,b3⟩
   case round=>
    clear T0 b3 x0 x1 x2 x3
    obtain ⟨j,rfl,hj,HD,T,hb⟩:=hrel
    have hsr:=hb.size
    have htl:=T.lt
    have X:=X2.below hb hxl
    have q0:=X.c0
    by_cases hlt:j < os.length
    ·obtain ⟨g,off,hoe,hg,hc⟩:=(hXR.below hb).at_ (by omega)
     have xp:=hc j hlt
     have hmem:os[j] ∈ os:=List.getElem_mem hlt
     have hTK:Hid (os.take (j + 1)=os.take j ++ [os[j]]):=Lib.hid (List.take_succ_eq_append_getElem hlt)
     have HL2:Hid (LkO h.ws os os[j] os[j].n.toNat → ∀ i (hi:i < os.length),i < j + 1 → LkO h.ws os os[i] os[i].n.toNat):=Lib.hid fun e i hi hij=>by
      by_cases e2:i=j
      ·subst e2;exact e
      ·exact HD.out i hi (by omega)
     have HL3:Hid (¬ LkO h.ws os os[j] os[j].n.toNat → y=2):=Lib.hid fun e=>HNL.out fun k=>e (HLK.out.1 k _ hmem)
     obtain ⟨oa1,oa2,on1,on2,om⟩:=HOB.out _ hmem
     obtain ⟨o,ho⟩:∃ o,Hid (os[j]=o):=⟨_,Lib.hid rfl⟩
     rw [ho.out] at xp oa1 oa2 on1 on2 om hTK HL2 HL3
     obtain ⟨p0,p1,p2,p3,p4,p5⟩:=id xp
     have j1:(j:Int) < (os.length:Int):=by omega
     have j2:(0:Int) ≤ (j:Int):=by omega
     have Z0:=Six.new wr (.int .i64 o.i) (.int .i64 o.k) (.int .u64 o.a) (.int .i64 o.n) (.int .u64 o.m) (.bool o.c) 156
     have aS:Below wr.heap.size wr (wr.alloc (.cells #[.int .i64 o.i,.int .i64 o.k,.int .u64 o.a,.int .i64 o.n,.int .u64 o.m,.bool o.c] 156)):=Below.alloc (Below.refl _ _) (Nat.le_refl _) _
     have T1:=T.later aS
     have b4:=hb.trans (aS.mono hsr)
     subst hoe
     clear hc xp hmem aS HD ho T hb
     go_wp2_with fail
     clear p0 p1 p2 p3 p4 p5 q0
     rw [← thK_zero (os.take j) o] at T1
     obtain ⟨n,hn⟩:∃ n:Nat,o.n=(n:Int):=⟨o.n.toNat,by omega⟩
     have hnt:o.n.toNat=n:=by omega
     have hn48:n ≤ 48:=by omega
     have HNN:=Lib.hid hn
     have HNT:=Lib.hid hnt
     have hin:o.a + n < h.ws.length:=by omega
     clear hn hnt on1 on2 oa2
     generalize wr=wA at *
     have hbA:=htl
     go_loopw [8] (fun kv wr=>∃ k:Nat,kv=.int .i64 (k:Nat)∧k ≤ n + 1∧BRow wr w2.heap.size h.ws.length (thK (os.take j) o k)∧Six wr wA.heap.size (.int .i64 o.i) (.int .i64 o.k) (.int .u64 o.a) (.int .i64 o.n) (.int .u64 o.m) (.bool o.c)∧Below w2.heap.size w2 wr) (fun kv _=>n + 1 - (intOf kv).toNat)
     case atStart=>exact ⟨0,rfl,Nat.zero_le _,T1,Z0,b4⟩
     case round=>
      clear T1 Z0 b4
      obtain ⟨k,rfl,hk,T,Z,hb⟩:=hrel
      have hsr2:=hb.size
      have hzl:=Z.lt
      obtain ⟨z0,z1,z2,z3,z4,z5,zf⟩:=id Z
      by_cases hkn:k ≤ n
      ·have f1:decide ((k:Int) ≤ o.n)=true:=decide_eq_true (by have:=HNN.out;omega)
       have hk48:k ≤ 48:=by omega
       have HKN:=Lib.hid hkn
       obtain ⟨p,hp⟩:∃ p,o.a + k=p:=⟨_,rfl⟩
       have hpl:p < h.ws.length:=by omega
       have w1':IntKind.u64.wrap ((k:Nat):Int)=((k:Nat):Int):=by rw [IntKind.wrap_u64];omega
       have w2':IntKind.u64.wrap (((o.a:Nat):Int) + ((k:Nat):Int))=((p:Nat):Int):=by rw [IntKind.wrap_u64];omega
       have p1:((p:Nat):Int) < ((h.ws.length:Nat):Int):=by omega
       have p2:(0:Int) ≤ ((p:Nat):Int):=by omega
       obtain ⟨t0,t1⟩:=T.at_ p hpl
       have T2:=T.set hpl true
       have e2:(fun i=>if i=p then true else thK (os.take j) o k i)=thK (os.take j) o (k + 1):=by rw [thK_succ,hp]
       rw [e2] at T2
       have Z2:=Z.far (p:=⟨w2.heap.size,p,none⟩) (by show w2.heap.size ≠ wA.heap.size;omega) (.bool true)
       have b5:Below w2.heap.size w2 (wr.setCell ⟨w2.heap.size,p,none⟩ (.bool true)):=hb.setCell (p:=⟨w2.heap.size,p,none⟩) (Nat.le_refl _) _
       clear e2 hp T Z hb zf hkn
       go_wp2
       go_roundw
       case rel=>exact ⟨k + 1,by go_num,by have:=HKN.out;omega,T2,Z2,b5⟩
       case measure=>have:=HKN.out;simp [intOf];omega
      ·have HKE:Hid (k=n + 1):=Lib.hid (by omega)
       have f1:decide ((k:Int) ≤ o.n)=false:=decide_eq_false (by have:=HNN.out;omega)
       have T2:BRow wr w2.heap.size h.ws.length (thB (os.take (j + 1))):=by rw [hTK.out,← thK_all,HNT.out,← HKE.out];exact T
       clear hkn
       clear T zf
       go_wp2_with fail
       clear z0 z1 z2 z3 z4 z5
       generalize wr=wB at *
       go_loopw [9] (fun fv wr=>∃ f:Nat,fv=.int .i64 (f:Nat)∧f ≤ n∧Hid (LkO h.ws os o f)∧BRow wr w2.heap.size h.ws.length (thB (os.take (j + 1)))∧Six wr wA.heap.size (.int .i64 o.i) (.int .i64 o.k) (.int .u64 o.a) (.int .i64 o.n) (.int .u64 o.m) (.bool o.c)∧Below w2.heap.size w2 wr) (fun fv _=>n - (intOf fv).toNat)
       case atStart=>exact ⟨0,rfl,Nat.zero_le _,Lib.hid (by intro _ f hf;omega),T2,Z,hb⟩
       case round=>
        clear T2 Z hb hsr2 hzl
        obtain ⟨f,rfl,hf,HL,T,Z,hb⟩:=hrel
        have hsr2:=hb.size
        have hzl:=Z.lt
        obtain ⟨z0,z1,z2,z3,z4,z5,zf⟩:=id Z
        have X:=X2.below hb hxl
        have q0:=X.c0
        by_cases hfn:f < n
        ·have f2:decide ((f:Int) < o.n)=true:=decide_eq_true (by have:=HNN.out;omega)
         have hf48:f ≤ 48:=by omega
         have HFN:=Lib.hid hfn
         obtain ⟨p,hp⟩:∃ p,o.a + 1 + f=p:=⟨_,rfl⟩
         have hpl:p < h.ws.length:=by omega
         have w1':IntKind.u64.wrap ((f:Nat):Int)=((f:Nat):Int):=by rw [IntKind.wrap_u64];omega
         have w3':IntKind.u64.wrap (((o.a:Nat):Int) + 1)=((o.a:Nat):Int) + 1:=by rw [IntKind.wrap_u64];omega
         have w2':IntKind.u64.wrap (((o.a:Nat):Int) + 1 + ((f:Nat):Int))=((p:Nat):Int):=by rw [IntKind.wrap_u64];omega
         have p1:((p:Nat):Int) < ((h.ws.length:Nat):Int):=by omega
         have p2:(0:Int) ≤ ((p:Nat):Int):=by omega
         have r0:=((b2.trans (hb.mono hs2)).cell (p:=⟨gA,oA + p,none⟩) hgA).trans (hcA p hpl)
         obtain ⟨x,hx⟩:∃ x,Hid (h.ws.getD p 0=x):=⟨_,rfl⟩
         rw [hx.out] at r0
         have HST:Hid ((o.c=true → o.m.testBit f=true → FdO os x) → LkO h.ws os o (f + 1)):=Lib.hid fun e=>HL.out.step fun hc hbt=>by rw [hp,hx.out];exact e hc hbt
         have HBD:Hid (o.c=true → o.m.testBit f=true → ¬ FdO os x → y=2):=Lib.hid fun hc hbt hno=>HL3.out fun k=>hno (by have:=k hc f (by have:=HNT.out;omega) hbt;rw [hp,hx.out] at this;exact this)
         have HIS:=Lib.hid fun (w:World)=>xis_any (n:=o.n) (m:=o.m) (w:=w) (f:Nat) (by omega) (by omega)
         simp only [Int.toNat_natCast] at HIS
         clear hp hx HL hfn
         obtain hoc | hoc:o.c=false ∨ o.c=true:=by cases o.c <;> simp
         ·have HL2':=Lib.hid (HST.out (fun e=>(by rw [hoc] at e;cases e)))
          rw [hoc] at z5
          clear HST HBD hoc
          go_wp2
          go_roundw
          case rel=>first | exact ⟨f + 1,by go_num,by have:=HFN.out;omega,HL2',T,Z,hb⟩ | exact ⟨_,_,.int .i64 ((f + 1:Nat):Int),⟨f + 1,rfl,by have:=HFN.out;omega,HL2',T,Z,hb⟩,rfl,rfl,by first | go_num | simp⟩
          case measure=>have:=HFN.out;simp [intOf];omega
         ·rw [hoc] at z5
          obtain hbt | hbt:o.m.testBit f=false ∨ o.m.testBit f=true:=by cases o.m.testBit f <;> simp
          ·have HL2':=Lib.hid (HST.out (fun _ e=>(by rw [hbt] at e;cases e)))
           rw [hbt] at HIS
           clear HST HBD hoc hbt
           go_wp2_with fail
           go_at_call 97
           refine (HIS.out _).mono ?_
           rintro e w5 ⟨rfl,hb_w5⟩
           have T5:=T.later hb_w5
           have Z5:=Z.later hb_w5
           have b5:=hb.trans (hb_w5.mono hsr2)
           go_wp2
           go_roundw
           case rel=>first | exact ⟨f + 1,by go_num,by have:=HFN.out;omega,HL2',T5,Z5,b5⟩ | exact ⟨_,_,.int .i64 ((f + 1:Nat):Int),⟨f + 1,rfl,by have:=HFN.out;omega,HL2',T5,Z5,b5⟩,rfl,rfl,by first | go_num | simp⟩
           case measure=>have:=HFN.out;simp [intOf];omega
          ·rw [hbt] at HIS
           by_cases hx0:x=0
           ·subst hx0
            have HL2':=Lib.hid (HST.out (fun _ _=>.inl rfl))
            clear HST HBD hoc hbt
            go_wp2_with fail
            go_at_call 97
            refine (HIS.out _).mono ?_
            rintro e w5 ⟨rfl,hb_w5⟩
            have T5:=T.later hb_w5
            have Z5:=Z.later hb_w5
            have b5:=hb.trans (hb_w5.mono hsr2)
            go_wp2
            go_roundw
            case rel=>first | exact ⟨f + 1,by go_num,by have:=HFN.out;omega,HL2',T5,Z5,b5⟩ | exact ⟨_,_,.int .i64 ((f + 1:Nat):Int),⟨f + 1,rfl,by have:=HFN.out;omega,HL2',T5,Z5,b5⟩,rfl,rfl,by first | go_num | simp⟩
            case measure=>have:=HFN.out;simp [intOf];omega
           ·have f3:(((x:Nat):Int) == 0)=false:=by simpa using hx0
            obtain ⟨r,bb,hE⟩:=FdE.ex os x
            have hfd:=fdE_fdO hE hx0
            have HFI:=Lib.hid fun (w:World) hr=>xfindO_any (w:=w) (A:=some ⟨g,off,none⟩) (os:=os) co hr (by omega) x r bb hE
            unfold obX at HFI
            have hrow:=fun (w5:World) (hb5:Below w2.heap.size w2 w5)=>(hXR.below hb5).more hb5.size
            have HRW:=Lib.hid hrow
            have HST2:Hid (bb=true → LkO h.ws os o (f + 1)):=Lib.hid fun e=>HST.out fun _ _=>hfd.1 e
            have HBD2:Hid (bb=false → y=2):=Lib.hid fun e=>HBD.out hoc hbt fun k=>by have:=hfd.2 k;rw [e] at this;cases this
            clear HST HBD hoc hbt hx0 hE hfd hrow
            go_wp2_with fail
            go_at_call 97
            refine (HIS.out _).mono ?_
            rintro e w5 ⟨rfl,hb_w5⟩
            have T5:=T.later hb_w5
            have Z5:=Z.later hb_w5
            have b5:=hb.trans (hb_w5.mono hsr2)
            clear z0 z1 z2 z3 z4 z5 zf q0 T Z X r0
            have hsr5:=b5.size
            go_wp2_with fail
            go_at_call 98
            refine (HFI.out _ (HRW.out _ b5)).mono ?_
            rintro e w6 ⟨rfl,hb_w6⟩
            have a6:Below w6.heap.size w6 (w6.alloc (.cells #[.int .i64 r.i,.int .i64 r.k,.int .u64 r.a,.int .i64 r.n,.int .u64 r.m,.bool r.c] 156)):=Below.alloc (Below.refl _ _) (Nat.le_refl _) _
            have T6:=(T5.later hb_w6).later a6
            have Z6:=(Z5.later hb_w6).later a6
            have b6:=b5.trans (hb_w6.mono hsr5)
            have b7:=b6.trans (a6.mono b6.size)
            cases bb
            ·obtain rfl:=HBD2.out rfl
             go_wp2
             go_ret
             exact ⟨rfl,b2.trans (b7.mono hs2)⟩
            ·have HL2':=Lib.hid (HST2.out rfl)
             go_wp2
             go_roundw
             case rel=>first | exact ⟨f + 1,by go_num,by have:=HFN.out;omega,HL2',T6,Z6,b7⟩ | exact ⟨_,_,.int .i64 ((f + 1:Nat):Int),⟨f + 1,rfl,by have:=HFN.out;omega,HL2',T6,Z6,b7⟩,rfl,rfl,by first | go_num | simp⟩
             case measure=>have:=HFN.out;simp [intOf];omega
        ·obtain rfl:f=n:=by omega
         have f2:decide ((f:Int) < o.n)=false:=decide_eq_false (by have:=HNN.out;omega)
         have HL4:=Lib.hid (HL2.out (by rw [HNT.out];exact HL.out))
         go_wp2
         go_roundw
         case rel=>exact ⟨j + 1,by go_num,by omega,HL4,T,hb⟩
         case measure=>simp [intOf];omega
    ·obtain rfl:j=os.length:=by omega
     rw [List.take_length] at T
     have HLD:Hid (Linked h):=Lib.hid (HLK.out.2 fun o ho=>by
      obtain ⟨i,hi,rfl⟩:=List.getElem_of_mem ho
      exact HD.out i hi hi)
     have HTH:=Lib.hid fun i=>thB_iff os i
     clear HD HNL HLK HOB
     go_wp2_with fail
     clear q0
     generalize wr=wA at *
     go_loopw [95] (fun iv wr=>∃ i:Nat,iv=.int .i64 (i:Nat)∧i ≤ h.ws.length∧Hid (∀ q,q < i → ¬ Theirs os q → h.ws.getD q 0=0)∧BRow wr w2.heap.size h.ws.length (thB os)∧Below w2.heap.size w2 wr) (fun iv _=>h.ws.length - (intOf iv).toNat)
     case atStart=>exact ⟨0,rfl,Nat.zero_le _,Lib.hid (by intro q hq;omega),T,hb⟩
     case round=>
      clear T hb hsr htl X
      obtain ⟨i,rfl,hi,HD,T,hb⟩:=hrel
      have hsr:=hb.size
      have htl:=T.lt
      by_cases hil:i < h.ws.length
      ·have j1:(i:Int) < (h.ws.length:Int):=by omega
       have j2:(0:Int) ≤ (i:Int):=by omega
       have r0:=((b2.trans (hb.mono hs2)).cell (p:=⟨gA,oA + i,none⟩) hgA).trans (hcA i hil)
       obtain ⟨x,hx⟩:∃ x,Hid (h.ws.getD i 0=x):=⟨_,rfl⟩
       rw [hx.out] at r0
       obtain ⟨t0,t1⟩:=T.at_ i hil
       have HST:Hid ((¬ Theirs os i → x=0) → ∀ q,q < i + 1 → ¬ Theirs os q → h.ws.getD q 0=0):=Lib.hid fun e q hq hn=>by
        by_cases e2:q=i
        ·subst e2;rw [hx.out];exact e hn
        ·exact HD.out q (by omega) hn
       have HBD:Hid (¬ Theirs os i → x ≠ 0 → y=2):=Lib.hid fun hn h0=>HNR.out fun k=>h0 (by rw [← hx.out];exact k i hil hn)
       have HTI:=HTH.out i
       generalize thB os i=t at *
       cases t
       ·have hno:¬ Theirs os i:=fun k=>(by have:=HTI.2 k;cases this)
        by_cases hx0:x=0
        ·subst hx0
         have HD2:=Lib.hid (HST.out fun _=>rfl)
         clear HST HBD HTI hno HD
         go_wp2
         go_roundw
         case rel=>exact ⟨i + 1,by go_num,by omega,HD2,T,hb⟩
         case measure=>simp [intOf];omega
        ·have f3:(((x:Nat):Int) != 0)=true:=by simpa using hx0
         obtain rfl:=HBD.out hno hx0
         clear HST HBD HTI hno HD hx0
         go_wp2
         go_ret
         exact ⟨rfl,b2.trans (hb.mono hs2)⟩
       ·have HD2:=Lib.hid (HST.out fun k=>absurd (HTI.1 rfl) k)
        clear HST HBD HTI HD
        go_wp2
        go_roundw
        case rel=>exact ⟨i + 1,by go_num,by omega,HD2,T,hb⟩
        case measure=>simp [intOf];omega
      ·obtain rfl:i=h.ws.length:=by omega
       obtain rfl:=HEN.out HLD.out HD.out
       go_wp2
       go_ret
       exact ⟨rfl,b2.trans (hb.mono hs2)⟩
  ·have HAL:=Lib.hid fun (w:World) m=>xall_any (w:=w) (v:=v) (h:=h) m hF hO false (by simp [qh])
   obtain rfl:=HN.out fun d=>qh d.heads
   clear HY HN qf qh hF hO h2 hm
   unfold hpV hpv at HFR HAL ⊢
   obtain ⟨vA,vca,vU,vcu,vV,vcv⟩:=v
   simp only at *
   obtain ⟨x0,x1,x2,x3⟩:=id X0
   go_enter Tryz.func22,Tryz.ntmps22
   go_wp2_with fail
   go_at_call 95
   refine (HFR.out _ (by exact m1)).mono ?_
   rintro e w1 ⟨rfl,hb_w1⟩
   have X1:=X0.later hb_w1
   have b1:Below w.heap.size w w1:=bX
   have m2:=m1.later hb_w1
   clear x0 x1 x2 x3 X0 m1 hb_w1
   obtain ⟨x0,x1,x2,x3⟩:=id X1
   go_wp2_with fail
   go_at_call 96
   refine (HAL.out _ (by exact m2)).mono ?_
   rintro e w2 ⟨Ao,co,rfl,_,hb_w2⟩
   go_wp2
   go_ret
   exact ⟨rfl,b1.trans (hb_w2.mono b1.size)⟩
 ·have HFR:=Lib.hid fun (w:World) m=>xframed_any (w:=w) (v:=v) (h:=h) m h2 false (by simp [qf])
  obtain rfl:=HN.out fun d=>qf ((frmD_iff h).2 ⟨d.framed,d.owned⟩)
  clear HY HN qf h2 hm
  unfold hpV hpv at HFR ⊢
  obtain ⟨vA,vca,vU,vcu,vV,vcv⟩:=v
  simp only at *
  obtain ⟨x0,x1,x2,x3⟩:=id X0
  go_enter Tryz.func22,Tryz.ntmps22
  go_wp2_with fail
  go_at_call 95
  refine (HFR.out _ (by exact m1)).mono ?_
  rintro e w1 ⟨rfl,hb_w1⟩
  go_wp2
  go_ret
  exact ⟨rfl,bX⟩
theorem CopX.far {w:World} {B n cap:Nat} {A:Option Addr} {vs:List Sv} (h:CopX w B A n cap vs) {p:Addr} (hp:p.block < B) (u:Value):CopX (w.setCell p u) B A n cap vs:=
 ⟨h.len,ownsRow_far h.row_ hp u,fun v hv=>⟨(h.words v hv).1.far (.inl hp) u,(h.words v hv).2.far (.inl hp) u⟩,h.apart⟩
theorem CopX.owns {w:World} {B n cap:Nat} {A:Option Addr} {vs:List Sv} (h:CopX w B A n cap vs) (hp:∀ v ∈ vs,0 < v.d.aw.length∧0 < v.d.mw.length):OwnsS w B A n cap vs:=
 ⟨h.len,h.row_,h.words,fun v hv g e=>⟨(h.apart v hv g e).1 (hp v hv).1,(h.apart v hv g e).2 (hp v hv).2⟩⟩
structure CopO (w:World) (B:Nat) (v:Hv) (h:Hp):Prop where
 ex:∃ s,B ≤ s∧Own w B v.A h.ws∧(0 < h.ws.length → ∃ g,v.A=some ⟨g,0,none⟩∧g < s)∧Own w s v.U h.us∧∃ vs,sdsOf vs=h.l∧OwnsS w s v.V h.l.length v.cv vs
theorem CopO.owns {w:World} {B:Nat} {v:Hv} {h:Hp} (c:CopO w B v h):OwnsH w B v h:=by
 obtain ⟨s,hs,a,_,u,vs,e,o⟩:=c.ex
 exact ⟨a,u.mono hs,vs,e,o.mono hs⟩
theorem CopO.later {w w':World} {B:Nat} {v:Hv} {h:Hp} (c:CopO w B v h) (hb:Below w.heap.size w w'):CopO w' B v h:=by
 obtain ⟨s,hs,a,q,u,vs,e,o⟩:=c.ex
 exact ⟨s,hs,a.later hb,q,u.later hb,vs,e,o.later hb⟩
theorem CopO.far {w:World} {B:Nat} {v:Hv} {h:Hp} (c:CopO w B v h) {p:Addr} (hp:p.block < B) (u:Value):CopO (w.setCell p u) B v h:=by
 obtain ⟨s,hs,a,q,u',vs,e,o⟩:=c.ex
 exact ⟨s,hs,a.far (.inl hp) u,q,u'.far (.inl (by omega)) u,vs,e,o.far (by omega) u⟩
theorem res_hpc {fn:Func} {p:Tmp} (h:fn.results=#[.cell p 31]) {tmps:Array Value} {w:World} {g:Nat} {v0 v1 v2 v3:Value} (hp:tmps.getD p undef=.pointer (some ⟨g,0,none⟩)) (c:B4 w g v0 v1 v2 v3) :
  (results fn tmps).run Tryz.prog w=.ok (.agg #[v0,v1,v2,v3]) w:=by
 have hp2:tmps[p]?.getD undef=.pointer (some ⟨g,0,none⟩):=by rw [← hp];simp
 simp only [results,h]
 simp [go_sem,Result.andThen,c.c0,c.c1,c.c2,c.c3,asAddr,hp2]
section
variable {w:World} {v v':Hv} {h:Hp}
set_option maxHeartbeats 4000000 in
theorem hcopyW_any (m:HM w w.heap.size v h) (hs:Short h) :
  Calls Tryz.prog 14 #[hpV v h] w fun e w'=>∃ v',e=.returned (hpV v' h)∧HM w' w'.heap.size v' h∧(OkH h → CopO w' w.heap.size v' h)∧(v'.V=none → v'.cv=0)∧Below w.heap.size w w':=by
 have HA:=Lib.hid fun (w:World) hr=>acopy_any (w:=w) (A:=v.A) (ws:=h.ws) v.ca hr hs.ws
 have HU:=Lib.hid fun (w:World) hr=>rpcopy_any (w:=w) (n:=h.n) (A:=v.U) (ws:=h.us) v.cu hr hs.us
 have HV:=Lib.hid fun (w:World) hr=>xcopyL_any (w:=w) (A:=v.V) (l:=h.l) v.cv hr hs.l hs.each
 unfold CopiedA at HA
 unfold Copied at HU
 have hA:=m.a
 have hU:=m.u
 have hV:=m.v
 have hx0:=B4.new (w.alloc (.cells #[.slice v.A h.ws.length v.ca,.int .i64 h.n,.slice v.U h.us.length v.cu,.slice v.V h.l.length v.cv] 31)) (.slice none 0 0) (.int .i64 0) (.slice none 0 0) (.slice none 0 0) 31
 rw [World.size_alloc] at hx0
 have hy0:=(B4.new w (.slice v.A h.ws.length v.ca) (.int .i64 h.n) (.slice v.U h.us.length v.cu) (.slice v.V h.l.length v.cv) 31).later (Below.alloc (Below.refl _ _) (Nat.le_refl _) (.cells #[.slice none 0 0,.int .i64 0,.slice none 0 0,.slice none 0 0] 31))
 clear m hs
 unfold hpV hpv
 go_enter Tryz.func14,Tryz.ntmps14
 go_wp2_with fail
 refine wp_region_held_drew (S:=(fun X:World=>X.cell? ⟨w.heap.size,0,none⟩=some (.slice v.A h.ws.length v.ca)∧X.cell? ⟨w.heap.size,1,none⟩=some (.int .i64 h.n)∧X.cell? ⟨w.heap.size,2,none⟩=some (.slice v.U h.us.length v.cu)∧X.cell? ⟨w.heap.size,3,none⟩=some (.slice v.V h.l.length v.cv))) (by kernel_rfl) ?_ fun _=>?_
 ·exact kS
 refine tY 0 ?_
 try simp only [Act.put,qZ]
 refine tY 1 ?_
 try simp only [Act.put,qZ]
 refine tY 3 ?_
 try simp only [Act.put,qZ]
 refine tY 4 ?_
 try simp only [Act.put,qZ]
 refine tY 6 ?_
 try simp only [Act.put,qZ]
 refine tY 7 ?_
 try simp only [Act.put,qZ]
 refine tR 2 fun K hK=>?_
 try simp only [qZ]
 go_simp
 go_at_call 70
 refine (HA.out _ (hA.later bX)).mono ?_
 rintro e w1 ⟨A1,c1,rfl,⟨o1,_⟩,hb_w1⟩
 have hs_w1:=hb_w1.size
 (try simp only [zZ] at hs_w1)
 have k1:Below w.heap.size w w1:=bX
 have x1:=(hx0.later ((Below.refl _ _).drew)).later hb_w1
 have i1:=(hy0.later ((Below.refl _ _).drew)).later hb_w1
 have mw10:w1.cell? ⟨w.heap.size,0,none⟩=some (.slice v.A h.ws.length v.ca):=cX hb_w1
 have mw11:w1.cell? ⟨w.heap.size,1,none⟩=some (.int .i64 h.n):=cX hb_w1
 have mw12:w1.cell? ⟨w.heap.size,2,none⟩=some (.slice v.U h.us.length v.cu):=cX hb_w1
 have mw13:w1.cell? ⟨w.heap.size,3,none⟩=some (.slice v.V h.l.length v.cv):=cX hb_w1
 try go_wp2_with fail
 refine hK.out _ _ ?_ fun _=>?_
 ·exact kS
 clear hK K
 try simp only [Act.put,qZ]
 refine tR 5 fun K hK=>?_
 try simp only [qZ]
 go_simp
 go_at_call 71
 refine (HU.out _ (hU.later k1)).mono ?_
 rintro e w2 ⟨U2,c2,rfl,o2,hb_w2⟩
 have hs_w2:=hb_w2.size
 have k2:Below w.heap.size w w2:=k1.trans (hb_w2.mono k1.size)
 have x2:=x1.later hb_w2
 have i2:=i1.later hb_w2
 have p2:=o1.later hb_w2
 have mw20:w2.cell? ⟨w.heap.size,0,none⟩=some (.slice v.A h.ws.length v.ca):=cX hb_w2
 have mw21:w2.cell? ⟨w.heap.size,1,none⟩=some (.int .i64 h.n):=cX hb_w2
 have mw22:w2.cell? ⟨w.heap.size,2,none⟩=some (.slice v.U h.us.length v.cu):=cX hb_w2
 have mw23:w2.cell? ⟨w.heap.size,3,none⟩=some (.slice v.V h.l.length v.cv):=cX hb_w2
 try go_wp2_with fail
 refine hK.out _ _ ?_ fun _=>?_
 ·exact kS
 clear hK K
 try simp only [Act.put,qZ]
 refine tR 8 fun K hK=>?_
 try simp only [qZ]
 go_simp
 go_at_call 72
 refine (HV.out _ (hV.later k2)).mono ?_
 rintro e w3 ⟨V3,c3,vs,rfl,hvs,o3,hb_w3⟩
 have hs_w3:=hb_w3.size
 have k3:Below w.heap.size w w3:=k2.trans (hb_w3.mono k2.size)
 have x3:=x2.later hb_w3
 have i3:=i2.later hb_w3
 have p3:=p2.later hb_w3
 have q3:=o2.later hb_w3
 obtain ⟨y0,y1,y2,y3,z0,z1,z2,z3⟩:=id x3
 have mw30:w3.cell? ⟨w.heap.size,0,none⟩=some (.slice v.A h.ws.length v.ca):=cX hb_w3
 have mw31:w3.cell? ⟨w.heap.size,1,none⟩=some (.int .i64 h.n):=cX hb_w3
 have mw32:w3.cell? ⟨w.heap.size,2,none⟩=some (.slice v.U h.us.length v.cu):=cX hb_w3
 have mw33:w3.cell? ⟨w.heap.size,3,none⟩=some (.slice v.V h.l.length v.cv):=cX hb_w3
 try go_wp2_with fail
 refine hK.out _ _ ?_ fun _=>?_
 ·exact kS
 clear hK K
 try simp only [Act.put,qZ]
 refine tY 9 ?_
 try simp only [Act.put,qZ]
 refine tR 10 fun K hK=>?_
 try simp only [qZ]
 go_simp
 have I4:=((((i3.far (p:=⟨w.heap.size + 1,0,none⟩) (by show w.heap.size + 1 ≠ w.heap.size;omega) (.slice A1 h.ws.length c1)).far (p:=⟨w.heap.size + 1,1,none⟩) (by show w.heap.size + 1 ≠ w.heap.size;omega) (.int .i64 h.n)).far (p:=⟨w.heap.size + 1,2,none⟩) (by show w.heap.size + 1 ≠ w.heap.size;omega) (.slice U2 h.us.length c2)).far (p:=⟨w.heap.size + 1,3,none⟩) (by show w.heap.size + 1 ≠ w.heap.size;omega) (.slice V3 h.l.length c3))
 obtain ⟨t0,t1,t2,t3,_,_,_,_⟩:=id I4
 refine hK.out _ _ ?_ fun _=>?_
 ·exact kS
 clear hK K
 try simp only [Act.put,qZ]
 refine wpAnyH_done (by kernel_rfl) ?_ _
 have E0:=x3.all (.slice A1 h.ws.length c1) (.int .i64 h.n) (.slice U2 h.us.length c2) (.slice V3 h.l.length c3)
 have hb4:=below_all k3 (b:=w.heap.size + 1) (by omega) (.slice A1 h.ws.length c1) (.int .i64 h.n) (.slice U2 h.us.length c2) (.slice V3 h.l.length c3)
 have o3':=((((o3.far (p:=⟨w.heap.size + 1,0,none⟩) (by show w.heap.size + 1 < _;omega) (.slice A1 h.ws.length c1)).far (p:=⟨w.heap.size + 1,1,none⟩) (by show w.heap.size + 1 < _;omega) (.int .i64 h.n)).far (p:=⟨w.heap.size + 1,2,none⟩) (by show w.heap.size + 1 < _;omega) (.slice U2 h.us.length c2)).far (p:=⟨w.heap.size + 1,3,none⟩) (by show w.heap.size + 1 < _;omega) (.slice V3 h.l.length c3))
 have q3':=((((q3.far (p:=⟨w.heap.size + 1,0,none⟩) (.inl (by show w.heap.size + 1 < _;omega)) (.slice A1 h.ws.length c1)).far (p:=⟨w.heap.size + 1,1,none⟩) (.inl (by show w.heap.size + 1 < _;omega)) (.int .i64 h.n)).far (p:=⟨w.heap.size + 1,2,none⟩) (.inl (by show w.heap.size + 1 < _;omega)) (.slice U2 h.us.length c2)).far (p:=⟨w.heap.size + 1,3,none⟩) (.inl (by show w.heap.size + 1 < _;omega)) (.slice V3 h.l.length c3))
 have p3':=((((p3.far (p:=⟨w.heap.size + 1,0,none⟩) (.inl (by simp only [zD,zA];show w.heap.size + 1 < _;omega)) (.slice A1 h.ws.length c1)).far (p:=⟨w.heap.size + 1,1,none⟩) (.inl (by simp only [zD,zA];show w.heap.size + 1 < _;omega)) (.int .i64 h.n)).far (p:=⟨w.heap.size + 1,2,none⟩) (.inl (by simp only [zD,zA];show w.heap.size + 1 < _;omega)) (.slice U2 h.us.length c2)).far (p:=⟨w.heap.size + 1,3,none⟩) (.inl (by simp only [zD,zA];show w.heap.size + 1 < _;omega)) (.slice V3 h.l.length c3))
 have hm:HM _ _ ⟨A1,c1,U2,c2,V3,c3⟩ h:=⟨p3'.row,q3'.row,by have:=o3'.srow;rw [hvs] at this;exact this⟩
 have hsa:0 < h.ws.length → ∃ g,A1=some ⟨g,0,none⟩∧g < w1.heap.size:=fun hl=>by
  obtain ⟨g,e,_,h2,_⟩:=o1.at_ hl
  exact ⟨g,e,h2⟩
 have hnl:V3=none → c3=0:=(owns_cap o3.row_).2
 have ho:OkH h → CopO _ w.heap.size ⟨A1,c1,U2,c2,V3,c3⟩ h:=fun hk=>⟨w1.heap.size,k1.size,p3'.mono (by simp only [zD,zA];omega),hsa,q3',vs,hvs,(o3'.owns fun x hx=>(by
  have h1:x.d ∈ h.l:=by rw [← hvs];exact List.mem_map.2 ⟨x,hx,rfl⟩
  have h2:=hk.framed.spans.words _ h1
  omega)).mono (by omega)⟩
 clear t0 t1 t2 t3 y0 y1 y2 y3 z0 z1 z2 z3
 go_wp2
 exact bodyPost_ret (res_hpc rfl rfl E0) rfl ⟨⟨A1,c1,U2,c2,V3,c3⟩,rfl,hm,ho,hnl,hb4⟩
theorem hcopy_any (m:HM w w.heap.size v h) (hs:Short h) :
  Calls Tryz.prog 14 #[hpV v h] w fun e w'=>∃ v',e=.returned (hpV v' h)∧HM w' w'.heap.size v' h∧Below w.heap.size w w':=
 (hcopyW_any m hs).mono fun e w' ⟨v',h1,h2,_,_,h3⟩=>⟨v',h1,h2,h3⟩
theorem hcopyN_any (m:HM w w.heap.size v h) (hs:Short h) :
  Calls Tryz.prog 14 #[hpV v h] w fun e w'=>∃ v',e=.returned (hpV v' h)∧HM w' w'.heap.size v' h∧(v'.V=none → v'.cv=0)∧Below w.heap.size w w':=
 (hcopyW_any m hs).mono fun e w' ⟨v',h1,h2,_,h4,h3⟩=>⟨v',h1,h2,h4,h3⟩
theorem hcopyO_any (m:HM w w.heap.size v h) (hk:OkH h) :
  Calls Tryz.prog 14 #[hpV v h] w fun e w'=>∃ v',e=.returned (hpV v' h)∧CopO w' w.heap.size v' h∧Below w.heap.size w w':=
 (hcopyW_any m hk.short).mono fun e w' ⟨v',h1,_,h2,_,h3⟩=>⟨v',h1,h2 hk,h3⟩
end
theorem OkH.heads {h:Hp} (hk:OkH h):Heads h:=fun j hj k hk'=>(hk.filled.sound j hj k hk').head_
section
variable {w:World} {v:Hv} {h:Hp}
theorem xallO_any (hm:HM w w.heap.size v h) (hk:OkH h) :
  Calls Tryz.prog 96 #[hpV v h] w fun e w'=>∃ A cap,e=.returned (.tuple #[.slice A (obsH h).length cap,.bool true])∧XRow w' w'.heap.size A (obsH h)∧Below w.heap.size w w':=
 (xall_any hm hk.framed hk.owned true (by simp [hk.heads])).mono fun e w' ⟨A,cap,h1,h2,h3⟩=>⟨A,cap,h1,XRow.of h2 rfl,h3⟩
end
theorem B4.farA {w:World} {b b':Nat} {v0 v1 v2 v3:Value} (h:B4 w b v0 v1 v2 v3) (hb:b' ≠ b) (u0 u1 u2 u3:Value):B4 ((((w.setCell ⟨b',0,none⟩ u0).setCell ⟨b',1,none⟩ u1).setCell ⟨b',2,none⟩ u2).setCell ⟨b',3,none⟩ u3) b v0 v1 v2 v3:=
 (((h.far (p:=⟨b',0,none⟩) hb u0).far (p:=⟨b',1,none⟩) hb u1).far (p:=⟨b',2,none⟩) hb u2).far (p:=⟨b',3,none⟩) hb u3
theorem CopO.farA {w:World} {B b:Nat} {v:Hv} {h:Hp} (c:CopO w B v h) (hb:b < B) (u0 u1 u2 u3:Value):CopO ((((w.setCell ⟨b,0,none⟩ u0).setCell ⟨b,1,none⟩ u1).setCell ⟨b,2,none⟩ u2).setCell ⟨b,3,none⟩ u3) B v h:=
 (((c.far (p:=⟨b,0,none⟩) hb u0).far (p:=⟨b,1,none⟩) hb u1).far (p:=⟨b,2,none⟩) hb u2).far (p:=⟨b,3,none⟩) hb u3
theorem CopO.hm {w:World} {B:Nat} {v:Hv} {h:Hp} (c:CopO w B v h):HM w w.heap.size v h:=c.owns.hm
def GotH (w:World) (h:Hp) (y:Int) (e:Ending) (w':World):Prop:=∃ v,e=.returned (.tuple #[hpV v h,.int .i64 y])∧HM w' w'.heap.size v h∧Below w.heap.size w w'
theorem Short.zero:Short hp0:=⟨by simp [hp0],by simp [hp0],by simp [hp0],fun d hd=>(by cases hd)⟩
theorem OwnsH.block {w:World} {B:Nat} {v:Hv} {h:Hp} {vs:List Sv} (hs:OwnsS w B v.V h.l.length v.cv vs) {i:Nat} (hi:i < h.l.length):∃ g,v.V=some ⟨g,0,none⟩∧B ≤ g∧g < w.heap.size:=by
 obtain ⟨_,⟨e1,e2⟩ | ⟨g,cap',cur,e,hgB,_⟩⟩:=id hs.row_
 ·omega
 ·injection e with e1 _ _
  exact ⟨g,e1,hgB,(hs.row_.lt g (by rw [e1];rfl)).2⟩
theorem OwnsH.span {w:World} {B:Nat} {v:Hv} {h:Hp} (m:OwnsH w B v h) {i:Nat} (hi:i < h.l.length) :
  ∃ g A ca M cm,v.V=some ⟨g,0,none⟩∧B ≤ g∧g < w.heap.size∧Sp8 w g (i * 8) (nth h.l i) A ca M cm∧Own w B A (nth h.l i).aw∧Own w B M (nth h.l i).mw∧(∀ j,w.frozen? ⟨g,j,none⟩=false):=by
 obtain ⟨vs,hvs,hS⟩:=m.s
 obtain ⟨g,hV,hgB,hgl⟩:=OwnsH.block hS hi
 have hil:i < vs.length:=by have:=hS.len;omega
 have hd:vs[i].d=nth h.l i:=by rw [← hvs];exact (nth_sds vs i hil).symm
 have hwo:=hS.words _ (List.getElem_mem hil)
 rw [hV] at hS
 have c8:=sp8_of_owns hS.row_ hS.len i hi
 rw [hd,Nat.zero_add] at c8
 rw [hd] at hwo
 exact ⟨g,_,_,_,_,hV,hgB,hgl,c8,hwo.1,hwo.2,fun j=>hS.row_.frozenAt j⟩
theorem OwnsH.setS {w:World} {B g:Nat} {v:Hv} {h:Hp} (m:OwnsH w B v h) (hV:v.V=some ⟨g,0,none⟩) {vs vs':List Sv} {l:List Sd} (hS:OwnsS w B v.V h.l.length v.cv vs) (h0:0 < h.l.length) {w':World} (ho:∀ A ws,Own w B A ws → Apt g A ws → Own w' B A ws) (hs:OwnsS w' B v.V h.l.length v.cv vs') (he:sdsOf vs'=l) (hl:l.length=h.l.length):OwnsH w' B v ⟨h.ws,h.n,h.us,l⟩:=by
 rw [hV] at hS
 have hc0:=flat8_cell hS.row_ hS.len 0 (by omega) 0 (by omega) _ rfl
 refine ⟨ho _ _ m.a (m.a.apt_span hc0),ho _ _ m.u (m.u.apt_span hc0),vs',he,?_⟩
 show OwnsS w' B v.V l.length v.cv vs'
 rw [hl]
 exact hs
theorem OwnsH.set8 {w:World} {B g:Nat} {v:Hv} {h:Hp} (m:OwnsH w B v h) (hV:v.V=some ⟨g,0,none⟩) {i j:Nat} {u:Value} (hi:i < h.l.length) (hj:j < 8) (d':Sd) (haw:d'.aw=(nth h.l i).aw) (hmw:d'.mw=(nth h.l i).mw)
  (hx:∀ A ca M cm,cells8 ⟨d',A,ca,M,cm⟩=(cells8 ⟨nth h.l i,A,ca,M,cm⟩).set j u):OwnsH (w.setCell ⟨g,i * 8 + j,none⟩ u) B v (setL h i d'):=by
 obtain ⟨vs,hvs,hS⟩:=m.s
 have hil:i < vs.length:=by have:=hS.len;omega
 have hd:vs[i].d=nth h.l i:=by rw [← hvs];exact (nth_sds vs i hil).symm
 have hmem:vs[i] ∈ vs:=List.getElem_mem hil
 have hwo:=hS.words _ hmem
 have hS':=hS
 rw [hV] at hS'
 have hap:=hS'.apart _ hmem g rfl
 rw [hd] at hwo
 have s1:=hS'.set1 i j u hi hj ⟨d',vs[i].A,vs[i].ca,vs[i].M,vs[i].cm⟩ (fun hv=>by rw [hx];rw [← hd]) (by rw [haw];exact hwo.1) (by rw [hmw];exact hwo.2) hap.1 hap.2
 refine m.setS hV hS (vs':=vs.set i ⟨d',vs[i].A,vs[i].ca,vs[i].M,vs[i].cm⟩) (l:=h.l.set i d') (by omega) (fun A ws o a=>o.oth (p:=⟨g,i * 8 + j,none⟩) a u) (by rw [hV];exact s1) ?_ (by simp)
 unfold sdsOf at hvs ⊢
 rw [List.map_set,hvs]
theorem OwnsH.setM {w:World} {B g:Nat} {v:Hv} {h:Hp} (m:OwnsH w B v h) (hV:v.V=some ⟨g,0,none⟩) {i:Nat} (hi:i < h.l.length) {M':Option Addr} {cm':Nat} {mw':List Nat} (o:Own w B M' mw') (ng:Apt g M' mw') (hl:0 < mw'.length) :
  OwnsH ((w.setCell ⟨g,i * 8 + 5,none⟩ (.int .i64 (nth h.l i).mn)).setCell ⟨g,i * 8 + 6,none⟩ (.slice M' mw'.length cm')) B v (setL h i ⟨(nth h.l i).f,(nth h.l i).p,(nth h.l i).z,(nth h.l i).an,(nth h.l i).aw,(nth h.l i).mn,mw',(nth h.l i).s⟩):=by
 obtain ⟨vs,hvs,hS⟩:=m.s
 have hil:i < vs.length:=by have:=hS.len;omega
 have hd:vs[i].d=nth h.l i:=by rw [← hvs];exact (nth_sds vs i hil).symm
 have hmem:vs[i] ∈ vs:=List.getElem_mem hil
 have hwo:=hS.words _ hmem
 have hS':=hS
 rw [hV] at hS'
 have hap:=hS'.apart _ hmem g rfl
 have s1:=hS'.set1 i 5 (.int .i64 (nth h.l i).mn) hi (by omega) vs[i] (fun hv=>by rw [← hd];rfl) hwo.1 hwo.2 hap.1 hap.2
 rw [List.set_getElem_self] at s1
 have hwo2:=s1.words _ hmem
 rw [hd] at hwo2
 have s2:=s1.set1 i 6 (.slice M' mw'.length cm') hi (by omega) ⟨⟨(nth h.l i).f,(nth h.l i).p,(nth h.l i).z,(nth h.l i).an,(nth h.l i).aw,(nth h.l i).mn,mw',(nth h.l i).s⟩,vs[i].A,vs[i].ca,M',cm'⟩ (fun hv=>by rw [← hd];rfl)
  hwo2.1 (o.oth (p:=⟨g,i * 8 + 5,none⟩) ng _) hap.1 (ng hl)
 refine m.setS hV hS (vs':=vs.set i ⟨⟨(nth h.l i).f,(nth h.l i).p,(nth h.l i).z,(nth h.l i).an,(nth h.l i).aw,(nth h.l i).mn,mw',(nth h.l i).s⟩,vs[i].A,vs[i].ca,M',cm'⟩) (l:=h.l.set i _) (by omega) (fun A ws o a=>(o.oth (p:=⟨g,i * 8 + 5,none⟩) a _).oth (p:=⟨g,i * 8 + 6,none⟩) a _) (by rw [hV];exact s2) ?_ (by simp)
 unfold sdsOf at hvs ⊢
 rw [List.map_set,hvs]
theorem ObjE.len {h:Hp} {t:List Nat} {y:Int} (hE:ObjE h t y):t.length ≤ 2048:=by
 rcases hE with ⟨_,rfl,_⟩ | ⟨hk,rfl,_⟩
 ·simp
 ·have:=addrs_len hk;omega
section
variable {w:World} {v:Hv} {h:Hp}
set_option maxHeartbeats 8000000 in
theorem xturn_n (hm:HM w w.heap.size v h) (h2:h.l.length ≤ 17592186044416) (hk:¬ OkH h) :
  Calls Tryz.prog 39 #[hpV v h] w fun e w'=>GotH w (hp0) (2) e w':=by
 have X0:=(HIn.new hm 31).alloc (.cells #[.slice none 0 0,.int .i64 0,.slice none 0 0,.slice none 0 0] 31)
 have R0:=B4.new (w.alloc (.cells #[.slice v.A h.ws.length v.ca,.int .i64 h.n,.slice v.U h.us.length v.cu,.slice v.V h.l.length v.cv] 31)) (.slice none 0 0) (.int .i64 0) (.slice none 0 0) (.slice none 0 0) 31
 rw [World.size_alloc] at R0
 unfold GotH
 have HCH:=Lib.hid fun (w:World) m=>xcheckH_any (w:=w) (v:=v) (h:=h) m h2 2 (.inr ⟨hk,rfl⟩)
 clear hk hm
 unfold hpV hpv at HCH ⊢
 obtain ⟨vA,vca,vU,vcu,vV,vcv⟩:=v
 obtain ⟨x0,x1,x2,x3,fx0,fx1,fx2,fx3⟩:=id X0.box
 simp only at *
 go_enter Tryz.func39,Tryz.ntmps39
 go_wp2_with fail
 go_at_call 22
 refine (HCH.out _ (by exact X0.m)).mono ?_
 rintro e w1 ⟨rfl,hb_w1⟩
 have b1:Below w.heap.size w w1:=bX
 have X1:=X0.later hb_w1
 have R1:=R0.later hb_w1
 have hs1:=R1.lt
 clear x0 x1 x2 x3 fx0 fx1 fx2 fx3 X0 R0 hb_w1
 obtain ⟨x0,x1,x2,x3,fx0,fx1,fx2,fx3⟩:=id X1.box
 obtain ⟨z0,z1,z2,z3,fz0,fz1,fz2,fz3⟩:=id R1
 have E9:=R1.all (.slice none 0 0) (.int .i64 0) (.slice none 0 0) (.slice none 0 0)
 have b9:=below_all b1 (b:=w.heap.size + 1) (by omega) (.slice none 0 0) (.int .i64 0) (.slice none 0 0) (.slice none 0 0)
 go_wp2
 exact bodyPost_ret (res_hp2 rfl rfl E9) rfl ⟨hv0,rfl,(OwnsH.zero _ 0).hm,b9⟩
set_option maxHeartbeats 8000000 in
theorem xturn_u (hm:HM w w.heap.size v h) (h2:h.l.length ≤ 17592186044416) (hk:OkH h) (hsw:¬ SweptH h) :
  Calls Tryz.prog 39 #[hpV v h] w fun e w'=>GotH w (h) (5) e w':=by
 have X0:=(HIn.new hm 31).alloc (.cells #[.slice none 0 0,.int .i64 0,.slice none 0 0,.slice none 0 0] 31)
 have R0:=B4.new (w.alloc (.cells #[.slice v.A h.ws.length v.ca,.int .i64 h.n,.slice v.U h.us.length v.cu,.slice v.V h.l.length v.cv] 31)) (.slice none 0 0) (.int .i64 0) (.slice none 0 0) (.slice none 0 0) 31
 rw [World.size_alloc] at R0
 unfold GotH
 have HCH:=Lib.hid fun (w:World) m=>xcheckH_any (w:=w) (v:=v) (h:=h) m h2 0 (.inl ⟨hk,rfl⟩)
 have HCP:=Lib.hid fun (w:World) m=>hcopyO_any (w:=w) (v:=v) (h:=h) m hk
 have HSW:=Lib.hid fun (w:World) (v:Hv) m=>xswept_any (w:=w) (v:=v) (h:=h) m hk.framed.spans.1 false (by constructor;(intro q;cases q);(intro q;exact absurd q hsw))
 clear hk hm hsw
 unfold hpV hpv at HCH HCP HSW ⊢
 obtain ⟨vA,vca,vU,vcu,vV,vcv⟩:=v
 obtain ⟨x0,x1,x2,x3,fx0,fx1,fx2,fx3⟩:=id X0.box
 simp only at *
 go_enter Tryz.func39,Tryz.ntmps39
 go_wp2_with fail
 go_at_call 22
 refine (HCH.out _ (by exact X0.m)).mono ?_
 rintro e w1 ⟨rfl,hb_w1⟩
 have b1:Below w.heap.size w w1:=bX
 have X1:=X0.later hb_w1
 have R1:=R0.later hb_w1
 have hs1:=R1.lt
 clear x0 x1 x2 x3 fx0 fx1 fx2 fx3 X0 R0 hb_w1
 obtain ⟨x0,x1,x2,x3,fx0,fx1,fx2,fx3⟩:=id X1.box
 obtain ⟨z0,z1,z2,z3,fz0,fz1,fz2,fz3⟩:=id R1
 go_wp2_with fail
 go_at_call 14
 refine (HCP.out _ (by exact X1.m)).mono ?_
 rintro e w2 ⟨v2,rfl,c2,hb_w2⟩
 have b2:=b1.trans (hb_w2.mono b1.size)
 have BX:=X1.box.later hb_w2
 have R2:=R1.later hb_w2
 have hs2:=hb_w2.size
 have BX3:=BX.all (.slice v2.A h.ws.length v2.ca) (.int .i64 h.n) (.slice v2.U h.us.length v2.cu) (.slice v2.V h.l.length v2.cv)
 have R3:=R2.farA (b':=w.heap.size) (by omega) (.slice v2.A h.ws.length v2.ca) (.int .i64 h.n) (.slice v2.U h.us.length v2.cu) (.slice v2.V h.l.length v2.cv)
 have C3:=c2.farA (b:=w.heap.size) (by omega) (.slice v2.A h.ws.length v2.ca) (.int .i64 h.n) (.slice v2.U h.us.length v2.cu) (.slice v2.V h.l.length v2.cv)
 have b3:=below_all b2 (b:=w.heap.size) (Nat.le_refl _) (.slice v2.A h.ws.length v2.ca) (.int .i64 h.n) (.slice v2.U h.us.length v2.cu) (.slice v2.V h.l.length v2.cv)
 clear x0 x1 x2 x3 fx0 fx1 fx2 fx3 z0 z1 z2 z3 fz0 fz1 fz2 fz3 X1 R1 R2 c2 b1 b2 hb_w2
 obtain ⟨x0,x1,x2,x3,fx0,fx1,fx2,fx3⟩:=id BX
 obtain ⟨y0,y1,y2,y3,fy0,fy1,fy2,fy3⟩:=id BX3
 obtain ⟨z0,z1,z2,z3,fz0,fz1,fz2,fz3⟩:=id R3
 go_wp2_with fail
 generalize ((((w2.setCell ⟨w.heap.size,0,none⟩ (.slice v2.A h.ws.length v2.ca)).setCell ⟨w.heap.size,1,none⟩ (.int .i64 h.n)).setCell ⟨w.heap.size,2,none⟩ (.slice v2.U h.us.length v2.cu)).setCell ⟨w.heap.size,3,none⟩ (.slice v2.V h.l.length v2.cv))=W3 at *
 go_at_call 111
 refine (HSW.out _ _ C3.hm).mono ?_
 rintro e w4 ⟨rfl,hb_w4⟩
 have BX4:=BX3.later hb_w4
 have R4:=R3.later hb_w4
 have C4:=C3.later hb_w4
 have b4:=b3.trans (hb_w4.mono b3.size)
 have hs4:=hb_w4.size
 clear x0 x1 x2 x3 fx0 fx1 fx2 fx3 y0 y1 y2 y3 fy0 fy1 fy2 fy3 z0 z1 z2 z3 fz0 fz1 fz2 fz3 BX BX3 R3 C3 b3 hb_w4
 obtain ⟨y0,y1,y2,y3,fy0,fy1,fy2,fy3⟩:=id BX4
 obtain ⟨z0,z1,z2,z3,fz0,fz1,fz2,fz3⟩:=id R4
 have E9:=R4.all (.slice v2.A h.ws.length v2.ca) (.int .i64 h.n) (.slice v2.U h.us.length v2.cu) (.slice v2.V h.l.length v2.cv)
 have C9:=C4.farA (b:=w.heap.size + 1) (by omega) (.slice v2.A h.ws.length v2.ca) (.int .i64 h.n) (.slice v2.U h.us.length v2.cu) (.slice v2.V h.l.length v2.cv)
 have b9:=below_all b4 (b:=w.heap.size + 1) (by omega) (.slice v2.A h.ws.length v2.ca) (.int .i64 h.n) (.slice v2.U h.us.length v2.cu) (.slice v2.V h.l.length v2.cv)
 go_wp2
 exact bodyPost_ret (res_hp2 rfl rfl E9) rfl ⟨v2,rfl,C9.hm,b9⟩
end
theorem FdE.uniq {os:List Ob} {a:Nat} {r r':Ob} {b b':Bool} (h:FdE os a r b) (h':FdE os a r' b'):r=r'∧b=b':=by
 rcases h with ⟨e,e2,hn⟩ | ⟨e,k,hk,e1,e2,e3,e4⟩ <;> rcases h' with ⟨d,d2,dn⟩ | ⟨d,q,hq,d1,d2,d3,d4⟩
 ·exact ⟨by rw [e2,d2],by rw [e,d]⟩
 ·exact absurd ⟨by rw [d1];exact d2,by rw [d1];exact d3⟩ (hn _ (List.getElem_mem hq))
 ·exact absurd ⟨by rw [e1];exact e2,by rw [e1];exact e3⟩ (dn _ (List.getElem_mem hk))
 ·refine ⟨?_,by rw [e,d]⟩
  rcases Nat.lt_trichotomy k q with g | g | g
  ·exact absurd ⟨by rw [e1];exact e2,by rw [e1];exact e3⟩ (d4 k g)
  ·subst g;rw [← e1,← d1]
  ·exact absurd ⟨by rw [d1];exact d2,by rw [d1];exact d3⟩ (e4 q g)
def TuO (ws:List Nat) (os:List Ob) (o:Ob) (F:Nat):Prop:=o.b=true → ∀ f:Nat,f < F → o.m.testBit f=true → ∀ r,FdE os (ws.getD (o.a + 1 + f) 0) r true → r.b=true
theorem TuO.step {ws:List Nat} {os:List Ob} {o:Ob} {F:Nat} (h:TuO ws os o F) (hk:o.b=true → o.m.testBit F=true → ∀ r,FdE os (ws.getD (o.a + 1 + F) 0) r true → r.b=true):TuO ws os o (F + 1):=fun hc f hf hb=>by
 by_cases e:f=F
 ·subst e;exact hk hc hb
 ·exact h hc f (by omega) hb
theorem swept_cur {h:Hp} (hs:SweptH h):cursH h=obsH h:=by
 unfold cursH
 refine List.filter_eq_self.2 fun o ho=>?_
 obtain ⟨j,k,hj,hk',ht,rfl⟩:=mem_obsL ho
 show tb (curW (nth h.l j)) k=true
 unfold curW
 rw [hs j hj]
 exact ht
theorem ob_at {h:Hp} {o:Ob} (ho:o ∈ obsH h):∃ j k:Nat,j < h.l.length∧k < slN (nth h.l j)∧o.i=(j:Nat)∧o.k=(k:Nat)∧tb (nth h.l j).mw k=o.b:=by
 obtain ⟨j,k,hj,hk',_,rfl⟩:=mem_obsL ho
 exact ⟨j,k,hj,hk',rfl,rfl,rfl⟩
theorem FdE.mem {os:List Ob} {a:Nat} {r:Ob} (h:FdE os a r true):r ∈ os:=by
 rcases h with ⟨e,_⟩ | ⟨_,k,hk,e1,_⟩
 ·cases e
 ·rw [← e1];exact List.getElem_mem hk
theorem turn_iff {h:Hp} (hk:OkH h) (hs:SweptH h):ClosedH h ↔ ∀ o ∈ obsH h,TuO h.ws (obsH h) o o.n.toNat:=by
 rw [← closedH_iff hk hs,closed_all hk,swept_cur hs]
 constructor
 ·intro ha o ho hb f hf ht r hE
  have h1:=ha o ho hb f (by omega) ht
  by_cases h0:h.ws.getD (o.a + 1 + f) 0=0
  ·exfalso
   rcases hE with ⟨e,_⟩ | ⟨_,q,hq,e1,e2,_⟩
   ·cases e
   ·have:=(heads_ob hk.framed hk.owned hk.heads (List.getElem_mem hq)).1
    rw [e1] at this
    omega
  ·obtain ⟨er,_⟩:=fdE_fn hk h0 hE
   rw [er]
   unfold stB at h1
   generalize h.ws.getD (o.a + 1 + f) 0=x at *
   simpa [h0] using h1
 ·intro ha o ho hb f hf ht
  unfold stB
  by_cases h0:h.ws.getD (o.a + 1 + f) 0=0
  ·rw [h0];simp
  ·obtain ⟨r,b,hE⟩:=FdE.ex (obsH h) (h.ws.getD (o.a + 1 + f) 0)
   rcases b with _ | _
   ·have hc:o.c=true:=by
     have h2:o ∈ cursH h:=by rw [swept_cur hs];exact ho
     simpa using (List.mem_filter.1 h2).2
    have h1:=(linkedO_iff hk.framed.spans).1 hk.linked o ho hc f (by omega) ht
    have h2:=(fdE_fdO hE h0).2 h1
    cases h2
   ·have h1:=ha o ho hb f (by omega) ht r hE
    rw [← (fdE_fn hk h0 hE).1,h1]
    rfl
end Go.Proofs.YtkfmbhlefppkhaaGreatDoor
