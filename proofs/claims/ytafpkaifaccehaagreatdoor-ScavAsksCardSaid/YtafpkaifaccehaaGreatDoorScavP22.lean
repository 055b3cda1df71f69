/- Parts of the proof. -/
import Derived.Test.YtafpkaifaccehaaGreatDoorScavP21
import Derived.Test.YtafpkaifaccehaaGreatDoorScavP19
import Derived.Deep.CutBlock
import Derived.Deep.CutRange
import Derived.Deep.DeepCutAuto
import Derived.Deep.QuietTactic
import Derived.BigQuiet
import Derived.Outline
import Derived.Deep.RegionHeld3
import Derived.Deep.AppendLies
set_option maxRecDepth 100000
set_option linter.unusedVariables false
set_option linter.unusedSimpArgs false
namespace Go.Proofs.YtafpkaifaccehaaGreatDoor
open Go.RowKit
theorem own_emptyJ (w w':World) (B:Nat) (hB:B ≤ w.heap.size) (h:w'.heap=(w.alloc (.cells #[] 3)).heap):w'.ownsRow B 3 1 (.slice (some ⟨w.heap.size,0,none⟩) 0 0) 0 []:=
 ⟨rfl,.inr ⟨w.heap.size,0,#[],rfl,hB,by rw [h];exact heap_alloc_new _ _,Nat.le_refl _,Nat.zero_le _,rfl,rfl⟩⟩
theorem run_append_noneJ {w:World} (ty:TypeId) (v:Value) (n c:Nat) (xs:List Value) (base:Nat) (hown:w.ownsRow base 3 1 v n xs) :
  (Builtin.append_ #[91,91] ty #[v,.slice none 0 c]).run Tryz.prog w=.ok v w:=by
 obtain ⟨i0,hi,hz0,hz1,hz2⟩:=info_parts info_int
 obtain ⟨_,⟨rfl,rfl⟩ | ⟨g,cap,cur,rfl,_,hg,hc,hm,_,_⟩⟩:=hown
 ·simp [Builtin.append_,run_underlying Tryz.underlying91,sizeOf,typeInfo,hi,hz1,Builtin.lenOf,Builtin.firstCells,storeCells]
 ·have h1:¬ (9223372036854775807 < (n:Int)):=by unfold maxLen at hm;omega
  have hl:∀ (x:Addr),(loadCells x 0).run Tryz.prog w=.ok #[] w:=fun x=>by simpa using run_loadCells_list (P:=Tryz.prog) w x [] (by simp)
  simp [Builtin.append_,run_underlying Tryz.underlying91,sizeOf,typeInfo,hi,hz1,Builtin.lenOf,Builtin.firstCells,storeCells,hc,hl,h1]
theorem wp_appendJ {w:World} {o:Oper} {a:Act} {K:Act → World → Prop} {Q:Exit → Act → World → Prop} (s x:Operand)
  (ho:o.op=.call { callee:=.builtin .append,args:=#[s,x],argTypes:=#[91,91] })
  (base:Nat) (A:Option Addr) (cap n:Nat) (xs:List Value) (hs:a.eval s=.slice A n cap) (hown:w.ownsRow base 3 1 (.slice A n cap) n xs)
  (Ao:Option Addr) (m c:Nat) (news:List Value) (hx:a.eval x=.slice Ao m c) (hl:news.length=m) (hpos:0 < m → ∃ b off,Ao=some ⟨b,off,none⟩∧∀ j u,news[j]?=some u → w.cell? ⟨b,off + j,none⟩=some u) (h1:∀ u ∈ news,u.oneCell'=true)
  (hsm:n + m ≤ 2000000000) (hbase:base ≤ w.heap.size)
  (h:∀ A' cap' w',w'.ownsRow base 3 1 (.slice A' (n + m) cap') (n + m) (xs ++ news) → w.grownBy w' (A.map fun a=>a.block) → Below base w w' → w.heap.size ≤ w'.heap.size → K (a.put o.dst (.slice A' (n + m) cap')) w') :
  Oper.wp Tryz.prog o a w K Q:=by
 obtain ⟨i0,hi,hz0,hz1,hz2⟩:=info_parts info_int
 have key:∃ A' cap' w',(Builtin.append_ #[91,91] o.type #[.slice A n cap,.slice Ao m c]).run Tryz.prog w=.ok (.slice A' (n + m) cap') w'∧w'.ownsRow base 3 1 (.slice A' (n + m) cap') (n + m) (xs ++ news)∧w.grownBy w' (A.map fun a=>a.block)∧Below base w w':=by
  have hob:(Value.slice A n cap).ownBlock=A.map fun a=>a.block:=by cases A <;> rfl
  by_cases hm:0 < m
  ·obtain ⟨b,off,rfl,hc⟩:=hpos hm
   obtain ⟨g,cap',w',h2,h3,h4,_,_⟩:=run_append_lies (P:=Tryz.prog) w 91 o.type base 3 i0 _ 1 8 Tryz.underlying91 hi hz0 hz1 hz2 rfl (by omega) (.slice A n cap) n xs hown ⟨b,off,none⟩ m c news (by omega) (fun j u hj=>by rw [add_form];exact hc j u hj) h1 hm (by unfold maxLen;omega) (by omega) hbase _ rfl
   exact ⟨_,cap',w',h2,h3,by rw [← hob];exact h4,(Below.refl _ _).grown h4 hbase (fun k hk=>(hown.lt k hk).1)⟩
  ·obtain rfl:m=0:=by omega
   obtain rfl:news=[]:=List.eq_nil_of_length_eq_zero (by omega)
   cases Ao with
   | none=>exact ⟨A,cap,w,run_append_noneJ _ _ n c xs base hown,by simpa using hown,⟨rfl,rfl,rfl,Nat.le_refl _,fun _ _ _=>rfl⟩,Below.refl _ _⟩
   | some ad=>
    obtain ⟨v',w',h2,h3,h4,h5,_⟩:=run_append_own_at (P:=Tryz.prog) w base 91 o.type 3 i0 _ 1 8 Tryz.underlying91 hi hz0 hz1 hz2 rfl (by omega) (.slice A n cap) n xs hown ad 0 c [] (by simp) (fun j u hj=>by simp at hj) (by simp) (by unfold maxLen;omega) (by omega) hbase
    have hb:=(Below.refl base w).grown h4 hbase (fun k hk=>(hown.lt k hk).1)
    rcases h3.2 with ⟨e,e2⟩ | ⟨g,cap',cur,e,_⟩
    ·obtain rfl:n=0:=by omega
     rw [e] at h2 h3
     exact ⟨none,0,w',h2,by simpa using h3,by rw [← hob];exact h4,hb⟩
    ·rw [e] at h2 h3
     exact ⟨_,cap',w',h2,by simpa using h3,by rw [← hob];exact h4,hb⟩
 obtain ⟨A',cap',w',h2,h3,h5,h4⟩:=key
 unfold Oper.wp execOp
 simp only [ho,resolve,invoke,builtin,Sem.run_bind,Sem.run_pure,Result.andThen_ok,List.map_toArray,List.map_cons,List.map_nil,hs,hx,h2]
 exact h A' cap' w' h3 h5 h4 h4.size
theorem block2J (w:World) (o1:Obj) (cs:List Value):((w.alloc o1).alloc (.cells cs.toArray 3)).heap[w.heap.size + 1]?=some (.cells cs.toArray 3 (0,0)):=by
 have h:=heap_alloc_new (w.alloc o1) (.cells cs.toArray 3)
 rwa [World.size_alloc] at h
theorem own_emptyJG (w w':World) (g B:Nat) (hg:w.heap.size=g) (hB:B ≤ g) (h:w'.heap=(w.alloc (.cells #[] 3)).heap):w'.ownsRow B 3 1 (.slice (some ⟨g,0,none⟩) 0 0) 0 []:=by
 subst hg
 exact own_emptyJ w w' B hB h
def SrcJ (W:World) (K:Option Addr) (L ck n:Nat) (XP XQ:List Value):Prop:=(L=0∧K=none∧ck=0) ∨
 ∃ gk,K=some ⟨gk,0,none⟩∧gk < W.heap.size∧L ≤ ck∧(∀ W',Below W.heap.size W W' → ∀ j u,XP[j]?=some u → W'.cell? ⟨gk,0 + j,none⟩=some u)∧(∀ W',Below W.heap.size W W' → ∀ j u,XQ[j]?=some u → W'.cell? ⟨gk,n + j,none⟩=some u)
theorem srcJ_of {W:World} {B:Nat} {K:Option Addr} {L ck n:Nat} {XP XQ:List Value} (h:W.ownsRow B 3 1 (.slice K L ck) L (XP ++ XQ)) (hn:XP.length=n):SrcJ W K L ck n XP XQ:=by
 obtain ⟨_,⟨h1,h2⟩ | ⟨g,cap',cur,e,_,_,hc,_⟩⟩:=id h
 ·injection h1 with h1 h3 h4
  exact .inl ⟨h3,h1,h4⟩
 ·injection e with e1 e2 e3
  subst e1 e3
  have hg:g < W.heap.size:=(h.lt g rfl).2
  have key:=h.cells (g:=g) rfl
  refine .inr ⟨g,rfl,hg,hc,fun W' hb j u hj=>?_,fun W' hb j u hj=>?_⟩
  ·have:=key j u (by rw [List.getElem?_append_left (by rcases Nat.lt_or_ge j XP.length with h | h;exact h;rw [List.getElem?_eq_none h] at hj;cases hj)];exact hj)
   rw [add_form] at this
   exact (hb.cell (p:=⟨g,0 + j,none⟩) hg).trans this
  ·have:=key (n + j) u (by rw [List.getElem?_append_right (by omega),hn,Nat.add_sub_cancel_left];exact hj)
   rw [add_form,Nat.zero_add] at this
   exact (hb.cell (p:=⟨g,n + j,none⟩) hg).trans this
def oInts (us:List Nat) (k:Nat):List Int:=(rsL us k).1.map fun (x:Nat)=>(x:Int)
theorem rInts_cases (us:List Nat) (k:Nat):rInts us k=if (rsL us k).2=0 then oInts us k else oInts us k ++ [(((rsL us k).2:Nat):Int)]:=by
 unfold rInts oInts runsL
 split
 ·rfl
 ·rw [List.map_append];rfl
theorem oInts_hit {us:List Nat} {k:Nat} (h:tb us k=true):oInts us (k + 1)=rInts us k∧(rsL us (k + 1)).2=0:=by
 unfold oInts rInts
 rw [rsL_hit us k h]
 exact ⟨rfl,rfl⟩
theorem oInts_miss {us:List Nat} {k:Nat} (h:tb us k=false):oInts us (k + 1)=oInts us k∧(rsL us (k + 1)).2=(rsL us k).2 + 1:=by
 unfold oInts
 rw [rsL_miss us k h]
 exact ⟨rfl,rfl⟩
theorem rsL_le (us:List Nat) (k:Nat):(rsL us k).2 ≤ k∧(rsL us k).1.length ≤ k:=by
 induction k with
 | zero=>simp [rsL]
 | succ k ih=>
  cases h:tb us k with
  | true=>
   rw [rsL_hit us k h]
   have:=runsL_len us k
   exact ⟨by simp,by simp only;omega⟩
  | false=>
   rw [rsL_miss us k h]
   exact ⟨by simp only;omega,by simp only;omega⟩
def insI (l:List Int) (a:Nat) (x:Int):List Int:=l.take a ++ x :: l.drop a
theorem iv_ins (l:List Int) (a:Nat) (x:Int):ivals (insI l a x)=ivals (l.take a) ++ [.int .i64 x] ++ ivals (l.drop a):=by simp [insI,ivals]
theorem iv_cut (l:List Int) (a:Nat):ivals l=ivals (l.take a) ++ ivals (l.drop a):=by
 unfold ivals
 rw [← List.map_append,List.take_append_drop]
theorem iv_one (l:List Int):∀ u ∈ ivals l,u.oneCell'=true:=by
 intro u hu
 simp only [ivals,List.mem_map] at hu
 obtain ⟨x,_,rfl⟩:=hu
 rfl
theorem rowI_cell {w:World} {B n cap:Nat} {C:Option Addr} {ts:List Int} (h:w.ownsRow B 3 1 (.slice C n cap) n (ivals ts)) (k:Nat) (hk:k < n) (hl:k < ts.length):∃ g,C=some ⟨g,0,none⟩∧g < w.heap.size∧w.cell? ⟨g,k,none⟩=some (.int .i64 ts[k]):=by
 obtain ⟨_,⟨h1,h2⟩ | ⟨g,cap',cur,e,hB,hg,hc,_,hs,ht⟩⟩:=id h
 ·omega
 ·injection e with e1 e2 e3
  subst e1
  refine ⟨g,rfl,heap_lt hg,?_⟩
  rw [h.cellAt k (by omega)]
  unfold ivals
  rw [List.getElem?_map,List.getElem?_eq_getElem hl]
  rfl
section
variable {w:World} {v:Hv} {O:Option Addr} {s:Sc} (co:Nat)
set_option maxHeartbeats 16000000 in
theorem xrunsS_any (m:SM w v O s) (h2:s.h.l.length ≤ 17592186044416) (t:List Int) (y:Int) (hE:RunE s t y) :
  Calls Tryz.prog 62 #[scV v O co s] w fun e w'=>∃ A c,e=.returned (.tuple #[.slice A t.length c,.int .i64 y])∧IRow w' w'.heap.size A t∧Below w.heap.size w w':=by
 have X0:=E8.new w (.slice v.A s.h.ws.length v.ca) (.int .i64 s.h.n) (.slice v.U s.h.us.length v.cu) (.slice v.V s.h.l.length v.cv) (.int .i64 s.n) (.slice O s.os.length co) (.int .u64 (s.fa:Nat)) (.int .u64 (s.go:Nat)) 79
 rcases hE with ⟨hk,rfl,rfl⟩ | ⟨hk,rfl,rfl⟩
 ·have HC:=Lib.hid fun (w:World) m=>xcheckS_any (w:=w) (v:=v) (O:=O) (s:=s) co m h2 2 (.inr ⟨hk,rfl⟩)
  clear hk h2
  unfold scV at HC ⊢
  obtain ⟨x0,x1,x2,x3,x4,x5,x6,x7,xf⟩:=id X0
  go_enter Tryz.func62,Tryz.ntmps62
  go_wp2_with fail
  go_at_call 66
  refine (HC.out _ (m.later bX)).mono ?_
  rintro e w1 ⟨rfl,hb_w1⟩
  obtain ⟨hc_w1,hf_w1⟩:=bcell hb_w1;have hz_w1_w_0:w.heap.size < w1.heap.size:=lY hb_w1.size;have hs_w1:=hb_w1.size;(try simp only [zZ] at hs_w1)
  go_wp2
  go_ret2
  exact ⟨none,0,rfl,IRow.nil _ _ _,bX⟩
 ·have HC:=Lib.hid fun (w:World) m=>xcheckS_any (w:=w) (v:=v) (O:=O) (s:=s) co m h2 0 (.inl ⟨hk,rfl⟩)
  obtain ⟨n0,n1,_⟩:=hk.nn
  have hlu:=hk.us.long
  have hul:=right_len hk.us
  obtain ⟨N,hN⟩:∃ N:Nat,s.n=(N:Int):=⟨s.n.toNat,by omega⟩
  have hN2:s.n.toNat=N:=by omega
  have N4:N ≤ 4096:=by omega
  have HU:=Lib.hid fun (w:World) (m:SM w v O s) (i:Nat) (hi:i < N)=>xusedS_any (w:=w) (v:=v) (h:=s.h) m.h.u (i:Int) (by omega) (by omega) (by omega)
  rw [hN2]
  have HM:=Lib.hid m
  have hsn:=hN
  unfold scV at HC ⊢
  unfold hpV hpv at HU
  rw [hN] at HC X0 ⊢
  obtain ⟨us,hus⟩:∃ us,Hid (s.h.us=us):=⟨_,Lib.hid rfl⟩
  rw [hus.out] at HC HU X0 ⊢
  have HMI:=Lib.hid fun k h=>@oInts_miss us k h
  have HHI:=Lib.hid fun k h=>@oInts_hit us k h
  have HRC:=Lib.hid fun k=>rInts_cases us k
  have HLE:=Lib.hid fun k=>rsL_le us k
  clear hk h2 n0 n1 hlu hul hN hN2 hsn m
  obtain ⟨x0,x1,x2,x3,x4,x5,x6,x7,xf⟩:=id X0
  go_enter Tryz.func62,Tryz.ntmps62
  go_wp2_with fail
  go_at_call 66
  refine (HC.out _ (HM.out.later bX)).mono ?_
  rintro e w1 ⟨rfl,hb_w1⟩
  obtain ⟨hc_w1,hf_w1⟩:=bcell hb_w1;have hz_w1_w_0:w.heap.size < w1.heap.size:=lY hb_w1.size;have hs_w1:=hb_w1.size;(try simp only [zZ] at hs_w1)
  have X1:=X0.later hb_w1
  have b1:Below w.heap.size w w1:=bX
  clear x0 x1 x2 x3 x4 x5 x6 x7 xf X0 hc_w1 hf_w1 hb_w1
  go_wp2_with fail
  go_loopw [4,5,6] (fun ov lv iv wr=>∃ (k lg L ck:Nat) (K:Option Addr) (ts:List Int),ov=.slice K L ck∧lv=.int .i64 (lg:Nat)∧iv=.int .i64 (k:Nat)∧k ≤ N + 1∧lg ≤ 4096∧Hid (ts.length=L)∧L ≤ 4097∧Hid (k ≤ N → ts=srtD (oInts us k)∧lg=(rsL us k).2)∧Hid (k=N + 1 → ts=srtD (rInts us N))∧Hid (wr.ownsRow w1.heap.size 3 1 (.slice K L ck) L (ivals ts))∧Below w1.heap.size w1 wr) (fun ov lv iv _=>N + 1 - (intOf iv).toNat)
  case atStart=>exact ⟨0,0,0,0,none,[],rfl,rfl,rfl,Nat.zero_le _,Nat.zero_le _,Lib.hid rfl,Nat.zero_le _,Lib.hid (fun _=>⟨by simp [oInts,rsL,srtD],rfl⟩),Lib.hid (fun h=>by omega),Lib.hid (World.ownsRow_nil _ _ _ _),Below.refl _ _⟩
  case round=>
   obtain ⟨k,lg,L,ck,K,ts,rfl,rfl,rfl,hk,hlg,hLn,hL4,HI,HIE,OW,hb_wr⟩:=hrel
   have hsr:=hb_wr.size
   have X2:=X1.below hb_wr (by have:=X1.lt;exact this)
   obtain ⟨x0,x1,x2,x3,x4,x5,x6,x7,xf⟩:=id X2
   by_cases hle:k ≤ N
   ·have d1:decide ((k:Int) ≤ (N:Int))=true:=decide_eq_true (by omega)
    have d1n:decide (k ≤ N)=true:=decide_eq_true hle
    have HI2:=Lib.hid (HI.out hle)
    have HLG:=Lib.hid (show lg=(rsL us k).2 from HI2.out.2)
    have hlk:=(HLE.out k).1
    have hlg4:lg ≤ k:=by rw [HLG.out];exact hlk
    clear hlk
    have bwr:Below w.heap.size w wr:=below_trans b1 hb_wr b1.size
    by_cases hkN:k < N
    ·have d2:decide ((k:Int) < (N:Int))=true:=decide_eq_true (by omega)
     have d2n:decide (k < N)=true:=decide_eq_true hkN
     go_wp2_with fail
     go_at_call 137
     refine (HU.out _ (HM.out.later bwr) k hkN).mono ?_
     rintro e w2 ⟨rfl,hb_w2⟩
     simp only [Int.toNat_natCast]
     have hs2:=hb_w2.size
     cases htb:tb us k with
     | false=>
      have hmi:=HMI.out k htb
      have HI3:Hid (k + 1 ≤ N → ts=srtD (oInts us (k + 1))∧lg + 1=(rsL us (k + 1)).2):=Lib.hid fun _=>by
       rw [hmi.1,hmi.2,← HLG.out]
       exact ⟨HI2.out.1,rfl⟩
      have HE3:Hid (k + 1=N + 1 → ts=srtD (rInts us N)):=Lib.hid fun h=>by omega
      have OW3:=Lib.hid (owns_laterN OW.out hb_w2)
      have b3:Below w1.heap.size w1 w2:=below_trans hb_wr hb_w2 hsr
      clear hmi HI HI2 HIE OW hb_w2 htb
      go_wp2
      go_roundw
      case rel=>exact ⟨k + 1,lg + 1,L,ck,K,ts,rfl,by go_num,by go_num,by omega,by omega,hLn,hL4,HI3,HE3,OW3,b3⟩
      case measure=>(simp [intOf];try omega)
     | true=>
      have hhi:=HHI.out k htb
      have HNX:Hid (∀ ts',ts'=srtD (rInts us k) → (k + 1 ≤ N → ts'=srtD (oInts us (k + 1))∧0=(rsL us (k + 1)).2)):=Lib.hid fun ts' h _=>by
       rw [hhi.1,hhi.2]
       exact ⟨h,rfl⟩
      have HNE:Hid (∀ ts':List Int,ts'=srtD (rInts us k) → (k + 1=N + 1 → ts'=srtD (rInts us N))):=Lib.hid fun ts' h e=>by omega
      have OW2:=Lib.hid (owns_laterN OW.out hb_w2)
      have b2:Below w1.heap.size w1 w2:=below_trans hb_wr hb_w2 hsr
      clear hhi HI HIE OW hb_wr htb x0 x1 x2 x3 x4 x5 x6 x7 xf X2 hb_w2 bwr
      generalize w2=W at *
      by_cases h0:lg=0
      ·subst h0
       have hrc:=HRC.out k
       rw [if_pos HLG.out.symm] at hrc
       have hts:ts=srtD (rInts us k):=by rw [hrc];exact HI2.out.1
       have HI3:=Lib.hid (HNX.out ts hts)
       have HE3:=Lib.hid (HNE.out ts hts)
       clear hrc hts HNX HNE HI2 HLG
       go_wp2
       go_roundw
       case rel=>exact ⟨k + 1,0,L,ck,K,ts,rfl,rfl,by go_num,by omega,by omega,hLn,hL4,HI3,HE3,OW2,b2⟩
       case measure=>(simp [intOf];try omega)
      ·have d3:decide ((0:Int) < (lg:Int))=true:=decide_eq_true (by omega)
       have d3n:decide (0 < lg)=true:=decide_eq_true (by omega)
       have HINS:Hid (∀ n,n ≤ L → (∀ j (hj:j < ts.length),j < n → (lg:Int) ≤ ts[j]) → (∀ h:n < ts.length,ts[n] < (lg:Int)) → insI ts n (lg:Int)=srtD (rInts us k)):=Lib.hid fun n hn q1 q2=>by
        have hrc:=HRC.out k
        rw [if_neg (by rw [← HLG.out];exact h0),← HLG.out] at hrc
        rw [hrc]
        exact insD_eq HI2.out.1 (by rw [hLn.out];exact hn) q1 q2
       clear h0 HI2
       go_upto_block 2 with fail
       go_cut [7] (fun v7 wx=>∃ n:Nat,v7=.int .i64 (n:Nat)∧n ≤ L∧Hid (insI ts n (lg:Int)=srtD (rInts us k))∧wx=W)
       case first=>
        go_wp2_with fail
        go_loopw [7] (fun v7 wx=>∃ j:Nat,v7=.int .i64 (j:Nat)∧j ≤ L∧Hid (∀ i (hi:i < ts.length),i < j → (lg:Int) ≤ ts[i])∧wx=W) (fun v7 _=>L - (intOf v7).toNat)
        case atStart=>exact ⟨0,rfl,Nat.zero_le _,Lib.hid (fun i hi h=>by omega),rfl⟩
        case round=>
         obtain ⟨j,rfl,hj,hA,rfl⟩:=hrel
         have j2:(0:Int) ≤ (j:Int):=by omega
         by_cases hjl:j < L
         ·have hjt:j < ts.length:=by rw [hLn.out];exact hjl
          obtain ⟨gk,rfl,hgk,hck⟩:=rowI_cell OW2.out j hjl hjt
          have j1:(j:Int) < (L:Int):=by omega
          have e1:decide ((j:Int) < (L:Int))=true:=decide_eq_true j1
          have e1n:decide (j < L)=true:=decide_eq_true hjl
          have HG:Hid ((lg:Int) ≤ ts[j] → ∀ i (hi:i < ts.length),i < j + 1 → (lg:Int) ≤ ts[i]):=Lib.hid fun h i hi hij=>by
           by_cases e:i=j
           ·subst e;exact h
           ·exact hA.out i hi (by omega)
          have HS:Hid (ts[j] < (lg:Int) → insI ts j (lg:Int)=srtD (rInts us k)):=Lib.hid fun h=>HINS.out j hj hA.out (fun _=>h)
          generalize ts[j]=x at *
          by_cases hx:(lg:Int) ≤ x
          ·have HA1:=Lib.hid (HG.out hx)
           have e2:decide ((lg:Int) ≤ x)=true:=decide_eq_true hx
           clear HG HS
           go_wp2
           go_roundw
           case rel=>exact ⟨j + 1,by go_num,by omega,HA1,by first | rfl | trivial⟩
           case measure=>(simp [intOf];try omega)
          ·have HA1:=Lib.hid (HS.out (by omega))
           have e2:decide ((lg:Int) ≤ x)=false:=decide_eq_false hx
           clear HG HS
           go_wp2_with fail
           go_meet
           case rel=>exact ⟨j,rfl,by omega,HA1,by first | rfl | trivial⟩
         ·obtain rfl:j=L:=by omega
          have e1:decide ((j:Int) < (j:Int))=false:=decide_eq_false (by omega)
          have e1n:decide (j < j)=false:=decide_eq_false (by omega)
          have HA1:=Lib.hid (HINS.out j (Nat.le_refl _) hA.out (fun h=>by rw [hLn.out] at h;omega))
          go_wp2_with fail
          go_meet
          case rel=>exact ⟨j,rfl,by omega,HA1,by first | rfl | trivial⟩
       case rest=>
        obtain ⟨n,rfl,hnL,HAD,rfl⟩:=hcut
        generalize wc=W0 at *
        have hs0:w1.heap.size ≤ W0.heap.size:=b2.size
        have OK0:=OW2
        go_upto_region 14 with fail
        go_cut [4] (fun v4 wx=>∃ (A5:Option Addr) (c5:Nat),v4=.slice A5 (L + 1) c5∧wx.ownsRow W0.heap.size 3 1 (.slice A5 (L + 1) c5) (L + 1) (ivals (insI ts n (lg:Int)))∧Below W0.heap.size W0 wx)
        case first=>
         have HFIN:=Lib.hid (iv_ins ts n (lg:Int))
         have oKK:=OK0.out
         rw [iv_cut ts n] at oKK
         have HLPn:Hid ((ivals (ts.take n)).length=n):=Lib.hid (by simp [ivals];have:=hLn.out;omega)
         have HLQn:Hid ((ivals (ts.drop n)).length=L - n):=Lib.hid (by simp [ivals];have:=hLn.out;omega)
         have HSRC:=Lib.hid (srcJ_of oKK HLPn.out)
         have HP1:=Lib.hid (iv_one (ts.take n))
         have HQ1:=Lib.hid (iv_one (ts.drop n))
         have hL64:L ≤ 5000:=by omega
         clear oKK OK0 OW2 HINS
         generalize ivals (ts.take n)=XP at *
         generalize ivals (ts.drop n)=XQ at *
         have HX1:Hid (∀ u ∈ ([.int .i64 (lg:Nat)]:List Value),u.oneCell'=true):=Lib.hid (by intro u hu;simp only [List.mem_cons,List.not_mem_nil,or_false] at hu;subst hu;rfl)
         have HS0:Hid (∀ (W:World) (xb:Nat),W.heap[xb]?=some (.cells #[.int .i64 (lg:Nat)] 3 (0,0)) → ∀ (j:Nat) u,([.int .i64 (lg:Nat)]:List Value)[j]?=some u → W.cell? ⟨xb,0 + j,none⟩=some u):=Lib.hid fun W xb hx j u hj=>by
          rw [Nat.zero_add,cell_of_row W xb j _ _ _ hx,← hj]
          simp
         have HBK:Hid (∀ o1,((W0.alloc o1).alloc (.cells #[.int .i64 (lg:Nat)] 3)).heap[W0.heap.size + 1]?=some (.cells #[.int .i64 (lg:Nat)] 3 (0,0))):=Lib.hid fun o1=>block2J W0 o1 _
         have HBK3:Hid (∀ o1,((W0.alloc (.cells #[.int .i64 (lg:Nat)] 3)).alloc o1).heap[W0.heap.size]?=some (.cells #[.int .i64 (lg:Nat)] 3 (0,0))):=Lib.hid fun o1=>(heap_alloc_old _ _ _ (by simp)).trans (heap_alloc_new _ _)
         rcases HSRC.out with ⟨hL0,hK0,hc0⟩ | ⟨gk,hK0,hgk,hcap,hS1,hS2⟩
         ·subst hK0 hc0
          obtain rfl:n=0:=by omega
          have HLP:Hid (XP.length=0):=Lib.hid (by have:=HLPn.out;omega)
          have HLQ:Hid (XQ.length=0):=Lib.hid (by have:=HLQn.out;omega)
          obtain rfl:L=0:=by omega
          clear hL0
          refine wp_region_held_drew (S:=(fun _:World=>True)) (by kernel_rfl) ?_ fun _=>?_
          ·trivial
          refine tY 1 ?_
          try simp only [Act.put,qZ]
          refine tY 2 ?_
          try simp only [Act.put,qZ]
          refine tY 3 ?_
          try simp only [Act.put,qZ]
          refine tY 5 ?_
          try simp only [Act.put,qZ]
          refine tY 8 ?_
          try simp only [Act.put,qZ]
          refine tY 9 ?_
          try simp only [Act.put,qZ]
          refine tY 10 ?_
          try simp only [Act.put,qZ]
          refine wpAnyH_ready (rs:=[0,6]) (by kernel_rfl) (by simp) ?_
          refine AllReadyH.cons rfl (fun K hK=>?_) (AllReadyH.cons rfl (fun K hK=>?_) AllReadyH.nil)
          ·try simp only [qZ]
           go_simp
           refine hK.out _ _ ?_ fun _=>?_
           ·trivial
           clear hK K
           try simp only [Act.put,qZ]
           refine wpAnyH_ready (rs:=[4,6]) (by kernel_rfl) (by simp) ?_
           refine AllReadyH.cons rfl (fun K hK=>?_) (AllReadyH.cons rfl (fun K hK=>?_) AllReadyH.nil)
           ·try simp only [qZ]
            rw [if_pos]
            rotate_left
            ·rfl
            refine wp_appendJ (.tmp 48) (.tmp 51) (by rfl) W0.heap.size (some ⟨W0.heap.size,0,none⟩) (0) (0) ([]) (by simp [Act.eval,Act.put]) (own_emptyJ W0 _ W0.heap.size lX rfl) none (0) (0) (XP) (by simp [Act.eval,Act.put]) HLP.out (fun hm=>absurd hm (by omega)) HP1.out (by omega) lX ?_
            intro Aw4 capw4 w4 ownw4 hgr_w4 hb_w4 hs_w4
            (try simp only [zZ] at hs_w4)
            simp only [Nat.zero_add,List.nil_append] at ownw4
            refine hK.out _ _ ?_ fun _=>?_
            ·trivial
            clear hK K
            try simp only [Act.put,qZ]
            refine tR 6 fun K hK=>?_
            try simp only [qZ]
            go_simp
            refine hK.out _ _ ?_ fun _=>?_
            ·trivial
            clear hK K
            try simp only [Act.put,qZ]
            refine tR 7 fun K hK=>?_
            try simp only [qZ]
            rw [if_pos]
            rotate_left
            ·rfl
            refine wp_appendJ (.tmp 52) (.tmp 54) (by rfl) W0.heap.size Aw4 (capw4) (0) (XP) (by simp [Act.eval,Act.put]) (ownw4.alloc _) (some ⟨w4.heap.size,0,none⟩) (1) (1) ([.int .i64 (lg:Nat)]) (by simp [Act.eval,Act.put]) rfl (fun _=>⟨w4.heap.size,0,rfl,HS0.out _ _ (heap_alloc_new _ _)⟩) HX1.out (by omega) lX ?_
            intro Aw8 capw8 w8 ownw8 hgr_w8 hb_w8 hs_w8
            (try simp only [zZ] at hs_w8)
            refine hK.out _ _ ?_ fun _=>?_
            ·trivial
            clear hK K
            try simp only [Act.put,qZ]
            refine tR 11 fun K hK=>?_
            try simp only [qZ]
            rw [if_pos]
            rotate_left
            ·rfl
            refine wp_appendJ (.tmp 55) (.tmp 58) (by rfl) W0.heap.size Aw8 (capw8) (0 + 1) (XP ++ [.int .i64 (lg:Nat)]) (by simp [Act.eval,Act.put]) (ownw8) none (0) (0) (XQ) (by simp [Act.eval,Act.put]) HLQ.out (fun hm=>absurd hm (by omega)) HQ1.out (by omega) lX ?_
            intro Aw12 capw12 w12 ownw12 hgr_w12 hb_w12 hs_w12
            (try simp only [zZ] at hs_w12)
            try go_wp2_with fail
            refine hK.out _ _ ?_ fun _=>?_
            ·trivial
            clear hK K
            try simp only [Act.put,qZ]
            refine tY 12 ?_
            try simp only [Act.put,qZ]
            refine wpAnyH_done (by kernel_rfl) ?_ _
            try go_wp2_with fail
            go_meet
            case rel=>exact ⟨_,_,rfl,by rw [HFIN.out];exact ownw12,bX⟩
           ·try simp only [qZ]
            go_simp
            refine hK.out _ _ ?_ fun _=>?_
            ·trivial
            clear hK K
            try simp only [Act.put,qZ]
            refine tR 4 fun K hK=>?_
            try simp only [qZ]
            rw [if_pos]
            rotate_left
            ·rfl
            refine wp_appendJ (.tmp 48) (.tmp 51) (by rfl) W0.heap.size (some ⟨W0.heap.size,0,none⟩) (0) (0) ([]) (by simp [Act.eval,Act.put]) ((own_emptyJ W0 _ W0.heap.size lX rfl).alloc _) none (0) (0) (XP) (by simp [Act.eval,Act.put]) HLP.out (fun hm=>absurd hm (by omega)) HP1.out (by omega) lX ?_
            intro Aw4 capw4 w4 ownw4 hgr_w4 hb_w4 hs_w4
            (try simp only [zZ] at hs_w4)
            simp only [Nat.zero_add,List.nil_append] at ownw4
            refine hK.out _ _ ?_ fun _=>?_
            ·trivial
            clear hK K
            try simp only [Act.put,qZ]
            refine tR 7 fun K hK=>?_
            try simp only [qZ]
            rw [if_pos]
            rotate_left
            ·rfl
            refine wp_appendJ (.tmp 52) (.tmp 54) (by rfl) W0.heap.size Aw4 (capw4) (0) (XP) (by simp [Act.eval,Act.put]) (ownw4) (some ⟨W0.heap.size + 1,0,none⟩) (1) (1) ([.int .i64 (lg:Nat)]) (by simp [Act.eval,Act.put]) rfl (fun _=>⟨W0.heap.size + 1,0,rfl,HS0.out _ _ ((hgr_w4.block _ lX (by simp)).trans (by exact HBK.out _))⟩) HX1.out (by omega) lX ?_
            intro Aw8 capw8 w8 ownw8 hgr_w8 hb_w8 hs_w8
            (try simp only [zZ] at hs_w8)
            refine hK.out _ _ ?_ fun _=>?_
            ·trivial
            clear hK K
            try simp only [Act.put,qZ]
            refine tR 11 fun K hK=>?_
            try simp only [qZ]
            rw [if_pos]
            rotate_left
            ·rfl
            refine wp_appendJ (.tmp 55) (.tmp 58) (by rfl) W0.heap.size Aw8 (capw8) (0 + 1) (XP ++ [.int .i64 (lg:Nat)]) (by simp [Act.eval,Act.put]) (ownw8) none (0) (0) (XQ) (by simp [Act.eval,Act.put]) HLQ.out (fun hm=>absurd hm (by omega)) HQ1.out (by omega) lX ?_
            intro Aw12 capw12 w12 ownw12 hgr_w12 hb_w12 hs_w12
            (try simp only [zZ] at hs_w12)
            try go_wp2_with fail
            refine hK.out _ _ ?_ fun _=>?_
            ·trivial
            clear hK K
            try simp only [Act.put,qZ]
            refine tY 12 ?_
            try simp only [Act.put,qZ]
            refine wpAnyH_done (by kernel_rfl) ?_ _
            try go_wp2_with fail
            go_meet
            case rel=>exact ⟨_,_,rfl,by rw [HFIN.out];exact ownw12,bX⟩
          ·try simp only [qZ]
           go_simp
           refine hK.out _ _ ?_ fun _=>?_
           ·trivial
           clear hK K
           try simp only [Act.put,qZ]
           refine tR 0 fun K hK=>?_
           try simp only [qZ]
           go_simp
           refine hK.out _ _ ?_ fun _=>?_
           ·trivial
           clear hK K
           try simp only [Act.put,qZ]
           refine tR 4 fun K hK=>?_
           try simp only [qZ]
           rw [if_pos]
           rotate_left
           ·rfl
           refine wp_appendJ (.tmp 48) (.tmp 51) (by rfl) W0.heap.size (some ⟨W0.heap.size + 1,0,none⟩) (0) (0) ([]) (by simp [Act.eval,Act.put]) (own_emptyJG (W0.alloc (.cells #[.int .i64 (lg:Nat)] 3)) _ (W0.heap.size + 1) W0.heap.size (by simp) lX rfl) none (0) (0) (XP) (by simp [Act.eval,Act.put]) HLP.out (fun hm=>absurd hm (by omega)) HP1.out (by omega) lX ?_
           intro Aw4 capw4 w4 ownw4 hgr_w4 hb_w4 hs_w4
           (try simp only [zZ] at hs_w4)
           simp only [Nat.zero_add,List.nil_append] at ownw4
           refine hK.out _ _ ?_ fun _=>?_
           ·trivial
           clear hK K
           try simp only [Act.put,qZ]
           refine tR 7 fun K hK=>?_
           try simp only [qZ]
           rw [if_pos]
           rotate_left
           ·rfl
           refine wp_appendJ (.tmp 52) (.tmp 54) (by rfl) W0.heap.size Aw4 (capw4) (0) (XP) (by simp [Act.eval,Act.put]) (ownw4) (some ⟨W0.heap.size,0,none⟩) (1) (1) ([.int .i64 (lg:Nat)]) (by simp [Act.eval,Act.put]) rfl (fun _=>⟨W0.heap.size,0,rfl,HS0.out _ _ ((hgr_w4.block _ lX (by simp)).trans (by exact HBK3.out _))⟩) HX1.out (by omega) lX ?_
           intro Aw8 capw8 w8 ownw8 hgr_w8 hb_w8 hs_w8
           (try simp only [zZ] at hs_w8)
           refine hK.out _ _ ?_ fun _=>?_
           ·trivial
           clear hK K
           try simp only [Act.put,qZ]
           refine tR 11 fun K hK=>?_
           try simp only [qZ]
           rw [if_pos]
           rotate_left
           ·rfl
           refine wp_appendJ (.tmp 55) (.tmp 58) (by rfl) W0.heap.size Aw8 (capw8) (0 + 1) (XP ++ [.int .i64 (lg:Nat)]) (by simp [Act.eval,Act.put]) (ownw8) none (0) (0) (XQ) (by simp [Act.eval,Act.put]) HLQ.out (fun hm=>absurd hm (by omega)) HQ1.out (by omega) lX ?_
           intro Aw12 capw12 w12 ownw12 hgr_w12 hb_w12 hs_w12
           (try simp only [zZ] at hs_w12)
           try go_wp2_with fail
           refine hK.out _ _ ?_ fun _=>?_
           ·trivial
           clear hK K
           try simp only [Act.put,qZ]
           refine tY 12 ?_
           try simp only [Act.put,qZ]
           refine wpAnyH_done (by kernel_rfl) ?_ _
           try go_wp2_with fail
           go_meet
           case rel=>exact ⟨_,_,rfl,by rw [HFIN.out];exact ownw12,bX⟩
         ·subst hK0
          have HC1:=Lib.hid hS1
          have HC2:=Lib.hid hS2
          have HLP:=HLPn
          clear hS1 hS2
          have hn0:(0:Int) ≤ (n:Int):=by omega
          have hn1:(n:Int) ≤ (L:Int):=by omega
          have hn2:(n:Int) ≤ (ck:Int):=by omega
          by_cases hca:ck=n
          ·subst hca
           have HLQ:Hid (XQ.length=0):=Lib.hid (by have:=HLQn.out;omega)
           have HN:Hid (L + 1=ck + 1 + 0):=Lib.hid (by omega)
           refine wp_region_held_drew (S:=(fun _:World=>True)) (by kernel_rfl) ?_ fun _=>?_
           ·trivial
           refine tY 1 ?_
           try simp only [Act.put,qZ]
           refine tY 2 ?_
           try simp only [Act.put,qZ]
           refine tY 3 ?_
           try simp only [Act.put,qZ]
           refine tY 5 ?_
           try simp only [Act.put,qZ]
           refine tY 8 ?_
           try simp only [Act.put,qZ]
           refine tY 9 ?_
           try simp only [Act.put,qZ]
           refine tY 10 ?_
           try simp only [Act.put,qZ]
           refine wpAnyH_ready (rs:=[0,6]) (by kernel_rfl) (by simp) ?_
           refine AllReadyH.cons rfl (fun K hK=>?_) (AllReadyH.cons rfl (fun K hK=>?_) AllReadyH.nil)
           ·try simp only [qZ]
            go_simp
            refine hK.out _ _ ?_ fun _=>?_
            ·trivial
            clear hK K
            try simp only [Act.put,qZ]
            refine wpAnyH_ready (rs:=[4,6]) (by kernel_rfl) (by simp) ?_
            refine AllReadyH.cons rfl (fun K hK=>?_) (AllReadyH.cons rfl (fun K hK=>?_) AllReadyH.nil)
            ·try simp only [qZ]
             rw [if_pos]
             rotate_left
             ·rfl
             refine wp_appendJ (.tmp 48) (.tmp 51) (by rfl) W0.heap.size (some ⟨W0.heap.size,0,none⟩) (0) (0) ([]) (by simp [Act.eval,Act.put]) (own_emptyJ W0 _ W0.heap.size lX rfl) (some ⟨gk,0,none⟩) (ck) (ck) (XP) (by simp [Act.eval,Act.put]) HLP.out (fun _=>⟨gk,0,rfl,HC1.out _ bX⟩) HP1.out (by omega) lX ?_
             intro Aw4 capw4 w4 ownw4 hgr_w4 hb_w4 hs_w4
             (try simp only [zZ] at hs_w4)
             simp only [Nat.zero_add,List.nil_append] at ownw4
             refine hK.out _ _ ?_ fun _=>?_
             ·trivial
             clear hK K
             try simp only [Act.put,qZ]
             refine tR 6 fun K hK=>?_
             try simp only [qZ]
             go_simp
             refine hK.out _ _ ?_ fun _=>?_
             ·trivial
             clear hK K
             try simp only [Act.put,qZ]
             refine tR 7 fun K hK=>?_
             try simp only [qZ]
             rw [if_pos]
             rotate_left
             ·rfl
             refine wp_appendJ (.tmp 52) (.tmp 54) (by rfl) W0.heap.size Aw4 (capw4) (ck) (XP) (by simp [Act.eval,Act.put]) (ownw4.alloc _) (some ⟨w4.heap.size,0,none⟩) (1) (1) ([.int .i64 (lg:Nat)]) (by simp [Act.eval,Act.put]) rfl (fun _=>⟨w4.heap.size,0,rfl,HS0.out _ _ (heap_alloc_new _ _)⟩) HX1.out (by omega) lX ?_
             intro Aw8 capw8 w8 ownw8 hgr_w8 hb_w8 hs_w8
             (try simp only [zZ] at hs_w8)
             refine hK.out _ _ ?_ fun _=>?_
             ·trivial
             clear hK K
             try simp only [Act.put,qZ]
             refine tR 11 fun K hK=>?_
             try simp only [qZ]
             rw [if_pos]
             rotate_left
             ·rfl
             refine wp_appendJ (.tmp 55) (.tmp 58) (by rfl) W0.heap.size Aw8 (capw8) (ck + 1) (XP ++ [.int .i64 (lg:Nat)]) (by simp [Act.eval,Act.put]) (ownw8) (some ⟨gk,0,none⟩) (0) (0) (XQ) (by simp [Act.eval,Act.put]) HLQ.out (fun hm=>absurd hm (by omega)) HQ1.out (by omega) lX ?_
             intro Aw12 capw12 w12 ownw12 hgr_w12 hb_w12 hs_w12
             (try simp only [zZ] at hs_w12)
             try go_wp2_with fail
             refine hK.out _ _ ?_ fun _=>?_
             ·trivial
             clear hK K
             try simp only [Act.put,qZ]
             refine tY 12 ?_
             try simp only [Act.put,qZ]
             refine wpAnyH_done (by kernel_rfl) ?_ _
             try go_wp2_with fail
             go_meet
             case rel=>exact ⟨_,_,by rw [HN.out],by rw [HN.out,HFIN.out];exact ownw12,bX⟩
            ·try simp only [qZ]
             go_simp
             refine hK.out _ _ ?_ fun _=>?_
             ·trivial
             clear hK K
             try simp only [Act.put,qZ]
             refine tR 4 fun K hK=>?_
             try simp only [qZ]
             rw [if_pos]
             rotate_left
             ·rfl
             refine wp_appendJ (.tmp 48) (.tmp 51) (by rfl) W0.heap.size (some ⟨W0.heap.size,0,none⟩) (0) (0) ([]) (by simp [Act.eval,Act.put]) ((own_emptyJ W0 _ W0.heap.size lX rfl).alloc _) (some ⟨gk,0,none⟩) (ck) (ck) (XP) (by simp [Act.eval,Act.put]) HLP.out (fun _=>⟨gk,0,rfl,HC1.out _ bX⟩) HP1.out (by omega) lX ?_
             intro Aw4 capw4 w4 ownw4 hgr_w4 hb_w4 hs_w4
             (try simp only [zZ] at hs_w4)
             simp only [Nat.zero_add,List.nil_append] at ownw4
             refine hK.out _ _ ?_ fun _=>?_
             ·trivial
             clear hK K
             try simp only [Act.put,qZ]
             refine tR 7 fun K hK=>?_
             try simp only [qZ]
             rw [if_pos]
             rotate_left
             ·rfl
             refine wp_appendJ (.tmp 52) (.tmp 54) (by rfl) W0.heap.size Aw4 (capw4) (ck) (XP) (by simp [Act.eval,Act.put]) (ownw4) (some ⟨W0.heap.size + 1,0,none⟩) (1) (1) ([.int .i64 (lg:Nat)]) (by simp [Act.eval,Act.put]) rfl (fun _=>⟨W0.heap.size + 1,0,rfl,HS0.out _ _ ((hgr_w4.block _ lX (by simp)).trans (by exact HBK.out _))⟩) HX1.out (by omega) lX ?_
             intro Aw8 capw8 w8 ownw8 hgr_w8 hb_w8 hs_w8
             (try simp only [zZ] at hs_w8)
             refine hK.out _ _ ?_ fun _=>?_
             ·trivial
             clear hK K
             try simp only [Act.put,qZ]
             refine tR 11 fun K hK=>?_
             try simp only [qZ]
             rw [if_pos]
             rotate_left
             ·rfl
             refine wp_appendJ (.tmp 55) (.tmp 58) (by rfl) W0.heap.size Aw8 (capw8) (ck + 1) (XP ++ [.int .i64 (lg:Nat)]) (by simp [Act.eval,Act.put]) (ownw8) (some ⟨gk,0,none⟩) (0) (0) (XQ) (by simp [Act.eval,Act.put]) HLQ.out (fun hm=>absurd hm (by omega)) HQ1.out (by omega) lX ?_
             intro Aw12 capw12 w12 ownw12 hgr_w12 hb_w12 hs_w12
             (try simp only [zZ] at hs_w12)
             try go_wp2_with fail
             refine hK.out _ _ ?_ fun _=>?_
             ·trivial
             clear hK K
             try simp only [Act.put,qZ]
             refine tY 12 ?_
             try simp only [Act.put,qZ]
             refine wpAnyH_done (by kernel_rfl) ?_ _
             try go_wp2_with fail
             go_meet
             case rel=>exact ⟨_,_,by rw [HN.out],by rw [HN.out,HFIN.out];exact ownw12,bX⟩
           ·try simp only [qZ]
            go_simp
            refine hK.out _ _ ?_ fun _=>?_
            ·trivial
            clear hK K
            try simp only [Act.put,qZ]
            refine tR 0 fun K hK=>?_
            try simp only [qZ]
            go_simp
            refine hK.out _ _ ?_ fun _=>?_
            ·trivial
            clear hK K
            try simp only [Act.put,qZ]
            refine tR 4 fun K hK=>?_
            try simp only [qZ]
            rw [if_pos]
            rotate_left
            ·rfl
            refine wp_appendJ (.tmp 48) (.tmp 51) (by rfl) W0.heap.size (some ⟨W0.heap.size + 1,0,none⟩) (0) (0) ([]) (by simp [Act.eval,Act.put]) (own_emptyJG (W0.alloc (.cells #[.int .i64 (lg:Nat)] 3)) _ (W0.heap.size + 1) W0.heap.size (by simp) lX rfl) (some ⟨gk,0,none⟩) (ck) (ck) (XP) (by simp [Act.eval,Act.put]) HLP.out (fun _=>⟨gk,0,rfl,HC1.out _ bX⟩) HP1.out (by omega) lX ?_
            intro Aw4 capw4 w4 ownw4 hgr_w4 hb_w4 hs_w4
            (try simp only [zZ] at hs_w4)
            simp only [Nat.zero_add,List.nil_append] at ownw4
            refine hK.out _ _ ?_ fun _=>?_
            ·trivial
            clear hK K
            try simp only [Act.put,qZ]
            refine tR 7 fun K hK=>?_
            try simp only [qZ]
            rw [if_pos]
            rotate_left
            ·rfl
            refine wp_appendJ (.tmp 52) (.tmp 54) (by rfl) W0.heap.size Aw4 (capw4) (ck) (XP) (by simp [Act.eval,Act.put]) (ownw4) (some ⟨W0.heap.size,0,none⟩) (1) (1) ([.int .i64 (lg:Nat)]) (by simp [Act.eval,Act.put]) rfl (fun _=>⟨W0.heap.size,0,rfl,HS0.out _ _ ((hgr_w4.block _ lX (by simp)).trans (by exact HBK3.out _))⟩) HX1.out (by omega) lX ?_
            intro Aw8 capw8 w8 ownw8 hgr_w8 hb_w8 hs_w8
            (try simp only [zZ] at hs_w8)
            refine hK.out _ _ ?_ fun _=>?_
            ·trivial
            clear hK K
            try simp only [Act.put,qZ]
            refine tR 11 fun K hK=>?_
            try simp only [qZ]
            rw [if_pos]
            rotate_left
            ·rfl
            refine wp_appendJ (.tmp 55) (.tmp 58) (by rfl) W0.heap.size Aw8 (capw8) (ck + 1) (XP ++ [.int .i64 (lg:Nat)]) (by simp [Act.eval,Act.put]) (ownw8) (some ⟨gk,0,none⟩) (0) (0) (XQ) (by simp [Act.eval,Act.put]) HLQ.out (fun hm=>absurd hm (by omega)) HQ1.out (by omega) lX ?_
            intro Aw12 capw12 w12 ownw12 hgr_w12 hb_w12 hs_w12
            (try simp only [zZ] at hs_w12)
            try go_wp2_with fail
            refine hK.out _ _ ?_ fun _=>?_
            ·trivial
            clear hK K
            try simp only [Act.put,qZ]
            refine tY 12 ?_
            try simp only [Act.put,qZ]
            refine wpAnyH_done (by kernel_rfl) ?_ _
            try go_wp2_with fail
            go_meet
            case rel=>exact ⟨_,_,by rw [HN.out],by rw [HN.out,HFIN.out];exact ownw12,bX⟩
          ·have HLQ:=HLQn
           have HN:Hid (L + 1=n + 1 + (L - n)):=Lib.hid (by omega)
           refine wp_region_held_drew (S:=(fun _:World=>True)) (by kernel_rfl) ?_ fun _=>?_
           ·trivial
           refine tY 1 ?_
           try simp only [Act.put,qZ]
           refine tY 2 ?_
           try simp only [Act.put,qZ]
           refine tY 3 ?_
           try simp only [Act.put,qZ]
           refine tY 5 ?_
           try simp only [Act.put,qZ]
           refine tY 8 ?_
           try simp only [Act.put,qZ]
           refine tY 9 ?_
           try simp only [Act.put,qZ]
           refine tY 10 ?_
           try simp only [Act.put,qZ]
           refine wpAnyH_ready (rs:=[0,6]) (by kernel_rfl) (by simp) ?_
           refine AllReadyH.cons rfl (fun K hK=>?_) (AllReadyH.cons rfl (fun K hK=>?_) AllReadyH.nil)
           ·try simp only [qZ]
            go_simp
            refine hK.out _ _ ?_ fun _=>?_
            ·trivial
            clear hK K
            try simp only [Act.put,qZ]
            refine wpAnyH_ready (rs:=[4,6]) (by kernel_rfl) (by simp) ?_
            refine AllReadyH.cons rfl (fun K hK=>?_) (AllReadyH.cons rfl (fun K hK=>?_) AllReadyH.nil)
            ·try simp only [qZ]
             rw [if_pos]
             rotate_left
             ·rfl
             refine wp_appendJ (.tmp 48) (.tmp 51) (by rfl) W0.heap.size (some ⟨W0.heap.size,0,none⟩) (0) (0) ([]) (by simp [Act.eval,Act.put]) (own_emptyJ W0 _ W0.heap.size lX rfl) (some ⟨gk,0,none⟩) (n) (ck) (XP) (by simp [Act.eval,Act.put]) HLP.out (fun _=>⟨gk,0,rfl,HC1.out _ bX⟩) HP1.out (by omega) lX ?_
             intro Aw4 capw4 w4 ownw4 hgr_w4 hb_w4 hs_w4
             (try simp only [zZ] at hs_w4)
             simp only [Nat.zero_add,List.nil_append] at ownw4
             refine hK.out _ _ ?_ fun _=>?_
             ·trivial
             clear hK K
             try simp only [Act.put,qZ]
             refine tR 6 fun K hK=>?_
             try simp only [qZ]
             go_simp
             refine hK.out _ _ ?_ fun _=>?_
             ·trivial
             clear hK K
             try simp only [Act.put,qZ]
             refine tR 7 fun K hK=>?_
             try simp only [qZ]
             rw [if_pos]
             rotate_left
             ·rfl
             refine wp_appendJ (.tmp 52) (.tmp 54) (by rfl) W0.heap.size Aw4 (capw4) (n) (XP) (by simp [Act.eval,Act.put]) (ownw4.alloc _) (some ⟨w4.heap.size,0,none⟩) (1) (1) ([.int .i64 (lg:Nat)]) (by simp [Act.eval,Act.put]) rfl (fun _=>⟨w4.heap.size,0,rfl,HS0.out _ _ (heap_alloc_new _ _)⟩) HX1.out (by omega) lX ?_
             intro Aw8 capw8 w8 ownw8 hgr_w8 hb_w8 hs_w8
             (try simp only [zZ] at hs_w8)
             refine hK.out _ _ ?_ fun _=>?_
             ·trivial
             clear hK K
             try simp only [Act.put,qZ]
             refine tR 11 fun K hK=>?_
             try simp only [qZ]
             rw [if_pos]
             rotate_left
             ·rfl
             refine wp_appendJ (.tmp 55) (.tmp 58) (by rfl) W0.heap.size Aw8 (capw8) (n + 1) (XP ++ [.int .i64 (lg:Nat)]) (by simp [Act.eval,Act.put]) (ownw8) (some ⟨gk,n,none⟩) (L - n) (ck - n) (XQ) (by simp [Act.eval,Act.put]) HLQ.out (fun _=>⟨gk,n,rfl,HC2.out _ bX⟩) HQ1.out (by omega) lX ?_
             intro Aw12 capw12 w12 ownw12 hgr_w12 hb_w12 hs_w12
             (try simp only [zZ] at hs_w12)
             try go_wp2_with fail
             refine hK.out _ _ ?_ fun _=>?_
             ·trivial
             clear hK K
             try simp only [Act.put,qZ]
             refine tY 12 ?_
             try simp only [Act.put,qZ]
             refine wpAnyH_done (by kernel_rfl) ?_ _
             try go_wp2_with fail
             go_meet
             case rel=>exact ⟨_,_,by rw [HN.out],by rw [HN.out,HFIN.out];exact ownw12,bX⟩
            ·try simp only [qZ]
             go_simp
             refine hK.out _ _ ?_ fun _=>?_
             ·trivial
             clear hK K
             try simp only [Act.put,qZ]
             refine tR 4 fun K hK=>?_
             try simp only [qZ]
             rw [if_pos]
             rotate_left
             ·rfl
             refine wp_appendJ (.tmp 48) (.tmp 51) (by rfl) W0.heap.size (some ⟨W0.heap.size,0,none⟩) (0) (0) ([]) (by simp [Act.eval,Act.put]) ((own_emptyJ W0 _ W0.heap.size lX rfl).alloc _) (some ⟨gk,0,none⟩) (n) (ck) (XP) (by simp [Act.eval,Act.put]) HLP.out (fun _=>⟨gk,0,rfl,HC1.out _ bX⟩) HP1.out (by omega) lX ?_
             intro Aw4 capw4 w4 ownw4 hgr_w4 hb_w4 hs_w4
             (try simp only [zZ] at hs_w4)
             simp only [Nat.zero_add,List.nil_append] at ownw4
             refine hK.out _ _ ?_ fun _=>?_
             ·trivial
             clear hK K
             try simp only [Act.put,qZ]
             refine tR 7 fun K hK=>?_
             try simp only [qZ]
             rw [if_pos]
             rotate_left
             ·rfl
             refine wp_appendJ (.tmp 52) (.tmp 54) (by rfl) W0.heap.size Aw4 (capw4) (n) (XP) (by simp [Act.eval,Act.put]) (ownw4) (some ⟨W0.heap.size + 1,0,none⟩) (1) (1) ([.int .i64 (lg:Nat)]) (by simp [Act.eval,Act.put]) rfl (fun _=>⟨W0.heap.size + 1,0,rfl,HS0.out _ _ ((hgr_w4.block _ lX (by simp)).trans (by exact HBK.out _))⟩) HX1.out (by omega) lX ?_
             intro Aw8 capw8 w8 ownw8 hgr_w8 hb_w8 hs_w8
             (try simp only [zZ] at hs_w8)
             refine hK.out _ _ ?_ fun _=>?_
             ·trivial
             clear hK K
             try simp only [Act.put,qZ]
             refine tR 11 fun K hK=>?_
             try simp only [qZ]
             rw [if_pos]
             rotate_left
             ·rfl
             refine wp_appendJ (.tmp 55) (.tmp 58) (by rfl) W0.heap.size Aw8 (capw8) (n + 1) (XP ++ [.int .i64 (lg:Nat)]) (by simp [Act.eval,Act.put]) (ownw8) (some ⟨gk,n,none⟩) (L - n) (ck - n) (XQ) (by simp [Act.eval,Act.put]) HLQ.out (fun _=>⟨gk,n,rfl,HC2.out _ bX⟩) HQ1.out (by omega) lX ?_
             intro Aw12 capw12 w12 ownw12 hgr_w12 hb_w12 hs_w12
             (try simp only [zZ] at hs_w12)
             try go_wp2_with fail
             refine hK.out _ _ ?_ fun _=>?_
             ·trivial
             clear hK K
             try simp only [Act.put,qZ]
             refine tY 12 ?_
             try simp only [Act.put,qZ]
             refine wpAnyH_done (by kernel_rfl) ?_ _
             try go_wp2_with fail
             go_meet
             case rel=>exact ⟨_,_,by rw [HN.out],by rw [HN.out,HFIN.out];exact ownw12,bX⟩
           ·try simp only [qZ]
            go_simp
            refine hK.out _ _ ?_ fun _=>?_
            ·trivial
            clear hK K
            try simp only [Act.put,qZ]
            refine tR 0 fun K hK=>?_
            try simp only [qZ]
            go_simp
            refine hK.out _ _ ?_ fun _=>?_
            ·trivial
            clear hK K
            try simp only [Act.put,qZ]
            refine tR 4 fun K hK=>?_
            try simp only [qZ]
            rw [if_pos]
            rotate_left
            ·rfl
            refine wp_appendJ (.tmp 48) (.tmp 51) (by rfl) W0.heap.size (some ⟨W0.heap.size + 1,0,none⟩) (0) (0) ([]) (by simp [Act.eval,Act.put]) (own_emptyJG (W0.alloc (.cells #[.int .i64 (lg:Nat)] 3)) _ (W0.heap.size + 1) W0.heap.size (by simp) lX rfl) (some ⟨gk,0,none⟩) (n) (ck) (XP) (by simp [Act.eval,Act.put]) HLP.out (fun _=>⟨gk,0,rfl,HC1.out _ bX⟩) HP1.out (by omega) lX ?_
            intro Aw4 capw4 w4 ownw4 hgr_w4 hb_w4 hs_w4
            (try simp only [zZ] at hs_w4)
            simp only [Nat.zero_add,List.nil_append] at ownw4
            refine hK.out _ _ ?_ fun _=>?_
            ·trivial
            clear hK K
            try simp only [Act.put,qZ]
            refine tR 7 fun K hK=>?_
            try simp only [qZ]
            rw [if_pos]
            rotate_left
            ·rfl
            refine wp_appendJ (.tmp 52) (.tmp 54) (by rfl) W0.heap.size Aw4 (capw4) (n) (XP) (by simp [Act.eval,Act.put]) (ownw4) (some ⟨W0.heap.size,0,none⟩) (1) (1) ([.int .i64 (lg:Nat)]) (by simp [Act.eval,Act.put]) rfl (fun _=>⟨W0.heap.size,0,rfl,HS0.out _ _ ((hgr_w4.block _ lX (by simp)).trans (by exact HBK3.out _))⟩) HX1.out (by omega) lX ?_
            intro Aw8 capw8 w8 ownw8 hgr_w8 hb_w8 hs_w8
            (try simp only [zZ] at hs_w8)
            refine hK.out _ _ ?_ fun _=>?_
            ·trivial
            clear hK K
            try simp only [Act.put,qZ]
            refine tR 11 fun K hK=>?_
            try simp only [qZ]
            rw [if_pos]
            rotate_left
            ·rfl
            refine wp_appendJ (.tmp 55) (.tmp 58) (by rfl) W0.heap.size Aw8 (capw8) (n + 1) (XP ++ [.int .i64 (lg:Nat)]) (by simp [Act.eval,Act.put]) (ownw8) (some ⟨gk,n,none⟩) (L - n) (ck - n) (XQ) (by simp [Act.eval,Act.put]) HLQ.out (fun _=>⟨gk,n,rfl,HC2.out _ bX⟩) HQ1.out (by omega) lX ?_
            intro Aw12 capw12 w12 ownw12 hgr_w12 hb_w12 hs_w12
            (try simp only [zZ] at hs_w12)
            try go_wp2_with fail
            refine hK.out _ _ ?_ fun _=>?_
            ·trivial
            clear hK K
            try simp only [Act.put,qZ]
            refine tY 12 ?_
            try simp only [Act.put,qZ]
            refine wpAnyH_done (by kernel_rfl) ?_ _
            try go_wp2_with fail
            go_meet
            case rel=>exact ⟨_,_,by rw [HN.out],by rw [HN.out,HFIN.out];exact ownw12,bX⟩
        case rest=>
         obtain ⟨A5,c5,rfl,o5,b5⟩:=hcut
         have HI3:=Lib.hid (HNX.out _ HAD.out)
         have HE3:=Lib.hid (HNE.out _ HAD.out)
         have O5:=Lib.hid (owns_monoN o5 hs0)
         have b6:Below w1.heap.size w1 wc:=below_trans b2 b5 hs0
         have HLI:Hid ((insI ts n (lg:Int)).length=L + 1):=Lib.hid (by simp [insI];have:=hLn.out;omega)
         have hL5:L + 1 ≤ 4097:=by
          have h1:=HLI.out
          rw [HAD.out,srtD_len,rInts_len] at h1
          have:=runsL_len us k
          omega
         clear o5 HNX HNE OK0 OW2 HINS
         go_wp2
         go_roundw
         case rel=>exact ⟨k + 1,0,L + 1,c5,A5,insI ts n (lg:Int),rfl,rfl,by go_num,by omega,by omega,HLI,hL5,HI3,HE3,O5,b6⟩
         case measure=>(simp [intOf];try omega)
    ·obtain rfl:k=N:=by omega
     have d2:decide ((k:Int) < (k:Int))=false:=decide_eq_false (by omega)
     have d2n:decide (k < k)=false:=decide_eq_false (by omega)
     have HNX:Hid (∀ ts':List Int,ts'=srtD (rInts us k) → (k + 1 ≤ k → ts'=srtD (oInts us (k + 1))∧0=(rsL us (k + 1)).2)):=Lib.hid fun ts' h e=>by omega
     have HNE:Hid (∀ ts':List Int,ts'=srtD (rInts us k) → (k + 1=k + 1 → ts'=srtD (rInts us k))):=Lib.hid fun ts' h _=>h
     have OW2:=OW
     have b2:Below w1.heap.size w1 wr:=hb_wr
     have hs2:=hsr
     clear HI HIE OW hb_wr bwr
     generalize wr=W at *
     by_cases h0:lg=0
     ·subst h0
      have hrc:=HRC.out k
      rw [if_pos HLG.out.symm] at hrc
      have hts:ts=srtD (rInts us k):=by rw [hrc];exact HI2.out.1
      have HI3:=Lib.hid (HNX.out ts hts)
      have HE3:=Lib.hid (HNE.out ts hts)
      clear hrc hts HNX HNE HI2 HLG
      go_wp2
      go_roundw
      case rel=>exact ⟨k + 1,0,L,ck,K,ts,rfl,rfl,by go_num,by omega,by omega,hLn,hL4,HI3,HE3,OW2,b2⟩
      case measure=>(simp [intOf];try omega)
     ·have d3:decide ((0:Int) < (lg:Int))=true:=decide_eq_true (by omega)
      have d3n:decide (0 < lg)=true:=decide_eq_true (by omega)
      have HINS:Hid (∀ n,n ≤ L → (∀ j (hj:j < ts.length),j < n → (lg:Int) ≤ ts[j]) → (∀ h:n < ts.length,ts[n] < (lg:Int)) → insI ts n (lg:Int)=srtD (rInts us k)):=Lib.hid fun n hn q1 q2=>by
       have hrc:=HRC.out k
       rw [if_neg (by rw [← HLG.out];exact h0),← HLG.out] at hrc
       rw [hrc]
       exact insD_eq HI2.out.1 (by rw [hLn.out];exact hn) q1 q2
      clear h0 HI2
      go_upto_block 2 with fail
      go_cut [7] (fun v7 wx=>∃ n:Nat,v7=.int .i64 (n:Nat)∧n ≤ L∧Hid (insI ts n (lg:Int)=srtD (rInts us k))∧wx=W)
      case first=>
       go_wp2_with fail
       go_loopw [7] (fun v7 wx=>∃ j:Nat,v7=.int .i64 (j:Nat)∧j ≤ L∧Hid (∀ i (hi:i < ts.length),i < j → (lg:Int) ≤ ts[i])∧wx=W) (fun v7 _=>L - (intOf v7).toNat)
       case atStart=>exact ⟨0,rfl,Nat.zero_le _,Lib.hid (fun i hi h=>by omega),rfl⟩
       case round=>
        obtain ⟨j,rfl,hj,hA,rfl⟩:=hrel
        have j2:(0:Int) ≤ (j:Int):=by omega
        by_cases hjl:j < L
        ·have hjt:j < ts.length:=by rw [hLn.out];exact hjl
         obtain ⟨gk,rfl,hgk,hck⟩:=rowI_cell OW2.out j hjl hjt
         have j1:(j:Int) < (L:Int):=by omega
         have e1:decide ((j:Int) < (L:Int))=true:=decide_eq_true j1
         have e1n:decide (j < L)=true:=decide_eq_true hjl
         have HG:Hid ((lg:Int) ≤ ts[j] → ∀ i (hi:i < ts.length),i < j + 1 → (lg:Int) ≤ ts[i]):=Lib.hid fun h i hi hij=>by
          by_cases e:i=j
          ·subst e;exact h
          ·exact hA.out i hi (by omega)
         have HS:Hid (ts[j] < (lg:Int) → insI ts j (lg:Int)=srtD (rInts us k)):=Lib.hid fun h=>HINS.out j hj hA.out (fun _=>h)
         generalize ts[j]=x at *
         by_cases hx:(lg:Int) ≤ x
         ·have HA1:=Lib.hid (HG.out hx)
          have e2:decide ((lg:Int) ≤ x)=true:=decide_eq_true hx
          clear HG HS
          go_wp2
          go_roundw
          case rel=>exact ⟨j + 1,by go_num,by omega,HA1,by first | rfl | trivial⟩
          case measure=>(simp [intOf];try omega)
         ·have HA1:=Lib.hid (HS.out (by omega))
          have e2:decide ((lg:Int) ≤ x)=false:=decide_eq_false hx
          clear HG HS
          go_wp2_with fail
          go_meet
          case rel=>exact ⟨j,rfl,by omega,HA1,by first | rfl | trivial⟩
        ·obtain rfl:j=L:=by omega
         have e1:decide ((j:Int) < (j:Int))=false:=decide_eq_false (by omega)
         have e1n:decide (j < j)=false:=decide_eq_false (by omega)
         have HA1:=Lib.hid (HINS.out j (Nat.le_refl _) hA.out (fun h=>by rw [hLn.out] at h;omega))
         go_wp2_with fail
         go_meet
         case rel=>exact ⟨j,rfl,by omega,HA1,by first | rfl | trivial⟩
      case rest=>
       obtain ⟨n,rfl,hnL,HAD,rfl⟩:=hcut
       generalize wc=W0 at *
       have hs0:w1.heap.size ≤ W0.heap.size:=b2.size
       have OK0:=OW2
       go_upto_region 14 with fail
       go_cut [4] (fun v4 wx=>∃ (A5:Option Addr) (c5:Nat),v4=.slice A5 (L + 1) c5∧wx.ownsRow W0.heap.size 3 1 (.slice A5 (L + 1) c5) (L + 1) (ivals (insI ts n (lg:Int)))∧Below W0.heap.size W0 wx)
       case first=>
        have HFIN:=Lib.hid (iv_ins ts n (lg:Int))
        have oKK:=OK0.out
        rw [iv_cut ts n] at oKK
        have HLPn:Hid ((ivals (ts.take n)).length=n):=Lib.hid (by simp [ivals];have:=hLn.out;omega)
        have HLQn:Hid ((ivals (ts.drop n)).length=L - n):=Lib.hid (by simp [ivals];have:=hLn.out;omega)
        have HSRC:=Lib.hid (srcJ_of oKK HLPn.out)
        have HP1:=Lib.hid (iv_one (ts.take n))
        have HQ1:=Lib.hid (iv_one (ts.drop n))
        have hL64:L ≤ 5000:=by omega
        clear oKK OK0 OW2 HINS
        generalize ivals (ts.take n)=XP at *
        generalize ivals (ts.drop n)=XQ at *
        have HX1:Hid (∀ u ∈ ([.int .i64 (lg:Nat)]:List Value),u.oneCell'=true):=Lib.hid (by intro u hu;simp only [List.mem_cons,List.not_mem_nil,or_false] at hu;subst hu;rfl)
        have HS0:Hid (∀ (W:World) (xb:Nat),W.heap[xb]?=some (.cells #[.int .i64 (lg:Nat)] 3 (0,0)) → ∀ (j:Nat) u,([.int .i64 (lg:Nat)]:List Value)[j]?=some u → W.cell? ⟨xb,0 + j,none⟩=some u):=Lib.hid fun W xb hx j u hj=>by
         rw [Nat.zero_add,cell_of_row W xb j _ _ _ hx,← hj]
         simp
        have HBK:Hid (∀ o1,((W0.alloc o1).alloc (.cells #[.int .i64 (lg:Nat)] 3)).heap[W0.heap.size + 1]?=some (.cells #[.int .i64 (lg:Nat)] 3 (0,0))):=Lib.hid fun o1=>block2J W0 o1 _
        have HBK3:Hid (∀ o1,((W0.alloc (.cells #[.int .i64 (lg:Nat)] 3)).alloc o1).heap[W0.heap.size]?=some (.cells #[.int .i64 (lg:Nat)] 3 (0,0))):=Lib.hid fun o1=>(heap_alloc_old _ _ _ (by simp)).trans (heap_alloc_new _ _)
        rcases HSRC.out with ⟨hL0,hK0,hc0⟩ | ⟨gk,hK0,hgk,hcap,hS1,hS2⟩
        ·subst hK0 hc0
         obtain rfl:n=0:=by omega
         have HLP:Hid (XP.length=0):=Lib.hid (by have:=HLPn.out;omega)
         have HLQ:Hid (XQ.length=0):=Lib.hid (by have:=HLQn.out;omega)
         obtain rfl:L=0:=by omega
         clear hL0
         refine wp_region_held_drew (S:=(fun _:World=>True)) (by kernel_rfl) ?_ fun _=>?_
         ·trivial
         refine tY 1 ?_
         try simp only [Act.put,qZ]
         refine tY 2 ?_
         try simp only [Act.put,qZ]
         refine tY 3 ?_
         try simp only [Act.put,qZ]
         refine tY 5 ?_
         try simp only [Act.put,qZ]
         refine tY 8 ?_
         try simp only [Act.put,qZ]
         refine tY 9 ?_
         try simp only [Act.put,qZ]
         refine tY 10 ?_
         try simp only [Act.put,qZ]
         refine wpAnyH_ready (rs:=[0,6]) (by kernel_rfl) (by simp) ?_
         refine AllReadyH.cons rfl (fun K hK=>?_) (AllReadyH.cons rfl (fun K hK=>?_) AllReadyH.nil)
         ·try simp only [qZ]
          go_simp
          refine hK.out _ _ ?_ fun _=>?_
          ·trivial
          clear hK K
          try simp only [Act.put,qZ]
          refine wpAnyH_ready (rs:=[4,6]) (by kernel_rfl) (by simp) ?_
          refine AllReadyH.cons rfl (fun K hK=>?_) (AllReadyH.cons rfl (fun K hK=>?_) AllReadyH.nil)
          ·try simp only [qZ]
           rw [if_pos]
           rotate_left
           ·rfl
           refine wp_appendJ (.tmp 48) (.tmp 51) (by rfl) W0.heap.size (some ⟨W0.heap.size,0,none⟩) (0) (0) ([]) (by simp [Act.eval,Act.put]) (own_emptyJ W0 _ W0.heap.size lX rfl) none (0) (0) (XP) (by simp [Act.eval,Act.put]) HLP.out (fun hm=>absurd hm (by omega)) HP1.out (by omega) lX ?_
           intro Aw4 capw4 w4 ownw4 hgr_w4 hb_w4 hs_w4
           (try simp only [zZ] at hs_w4)
           simp only [Nat.zero_add,List.nil_append] at ownw4
           refine hK.out _ _ ?_ fun _=>?_
           ·trivial
           clear hK K
           try simp only [Act.put,qZ]
           refine tR 6 fun K hK=>?_
           try simp only [qZ]
           go_simp
           refine hK.out _ _ ?_ fun _=>?_
           ·trivial
           clear hK K
           try simp only [Act.put,qZ]
           refine tR 7 fun K hK=>?_
           try simp only [qZ]
           rw [if_pos]
           rotate_left
           ·rfl
           refine wp_appendJ (.tmp 52) (.tmp 54) (by rfl) W0.heap.size Aw4 (capw4) (0) (XP) (by simp [Act.eval,Act.put]) (ownw4.alloc _) (some ⟨w4.heap.size,0,none⟩) (1) (1) ([.int .i64 (lg:Nat)]) (by simp [Act.eval,Act.put]) rfl (fun _=>⟨w4.heap.size,0,rfl,HS0.out _ _ (heap_alloc_new _ _)⟩) HX1.out (by omega) lX ?_
           intro Aw8 capw8 w8 ownw8 hgr_w8 hb_w8 hs_w8
           (try simp only [zZ] at hs_w8)
           refine hK.out _ _ ?_ fun _=>?_
           ·trivial
           clear hK K
           try simp only [Act.put,qZ]
           refine tR 11 fun K hK=>?_
           try simp only [qZ]
           rw [if_pos]
           rotate_left
           ·rfl
           refine wp_appendJ (.tmp 55) (.tmp 58) (by rfl) W0.heap.size Aw8 (capw8) (0 + 1) (XP ++ [.int .i64 (lg:Nat)]) (by simp [Act.eval,Act.put]) (ownw8) none (0) (0) (XQ) (by simp [Act.eval,Act.put]) HLQ.out (fun hm=>absurd hm (by omega)) HQ1.out (by omega) lX ?_
           intro Aw12 capw12 w12 ownw12 hgr_w12 hb_w12 hs_w12
           (try simp only [zZ] at hs_w12)
           try go_wp2_with fail
           refine hK.out _ _ ?_ fun _=>?_
           ·trivial
           clear hK K
           try simp only [Act.put,qZ]
           refine tY 12 ?_
           try simp only [Act.put,qZ]
           refine wpAnyH_done (by kernel_rfl) ?_ _
           try go_wp2_with fail
           go_meet
           case rel=>exact ⟨_,_,rfl,by rw [HFIN.out];exact ownw12,bX⟩
          ·try simp only [qZ]
           go_simp
           refine hK.out _ _ ?_ fun _=>?_
           ·trivial
           clear hK K
           try simp only [Act.put,qZ]
           refine tR 4 fun K hK=>?_
           try simp only [qZ]
           rw [if_pos]
           rotate_left
           ·rfl
           refine wp_appendJ (.tmp 48) (.tmp 51) (by rfl) W0.heap.size (some ⟨W0.heap.size,0,none⟩) (0) (0) ([]) (by simp [Act.eval,Act.put]) ((own_emptyJ W0 _ W0.heap.size lX rfl).alloc _) none (0) (0) (XP) (by simp [Act.eval,Act.put]) HLP.out (fun hm=>absurd hm (by omega)) HP1.out (by omega) lX ?_
           intro Aw4 capw4 w4 ownw4 hgr_w4 hb_w4 hs_w4
           (try simp only [zZ] at hs_w4)
           simp only [Nat.zero_add,List.nil_append] at ownw4
           refine hK.out _ _ ?_ fun _=>?_
           ·trivial
           clear hK K
           try simp only [Act.put,qZ]
           refine tR 7 fun K hK=>?_
           try simp only [qZ]
           rw [if_pos]
           rotate_left
           ·rfl
           refine wp_appendJ (.tmp 52) (.tmp 54) (by rfl) W0.heap.size Aw4 (capw4) (0) (XP) (by simp [Act.eval,Act.put]) (ownw4) (some ⟨W0.heap.size + 1,0,none⟩) (1) (1) ([.int .i64 (lg:Nat)]) (by simp [Act.eval,Act.put]) rfl (fun _=>⟨W0.heap.size + 1,0,rfl,HS0.out _ _ ((hgr_w4.block _ lX (by simp)).trans (by exact HBK.out _))⟩) HX1.out (by omega) lX ?_
           intro Aw8 capw8 w8 ownw8 hgr_w8 hb_w8 hs_w8
           (try simp only [zZ] at hs_w8)
           refine hK.out _ _ ?_ fun _=>?_
           ·trivial
           clear hK K
           try simp only [Act.put,qZ]
           refine tR 11 fun K hK=>?_
           try simp only [qZ]
           rw [if_pos]
           rotate_left
           ·rfl
           refine wp_appendJ (.tmp 55) (.tmp 58) (by rfl) W0.heap.size Aw8 (capw8) (0 + 1) (XP ++ [.int .i64 (lg:Nat)]) (by simp [Act.eval,Act.put]) (ownw8) none (0) (0) (XQ) (by simp [Act.eval,Act.put]) HLQ.out (fun hm=>absurd hm (by omega)) HQ1.out (by omega) lX ?_
           intro Aw12 capw12 w12 ownw12 hgr_w12 hb_w12 hs_w12
           (try simp only [zZ] at hs_w12)
           try go_wp2_with fail
           refine hK.out _ _ ?_ fun _=>?_
           ·trivial
           clear hK K
           try simp only [Act.put,qZ]
           refine tY 12 ?_
           try simp only [Act.put,qZ]
           refine wpAnyH_done (by kernel_rfl) ?_ _
           try go_wp2_with fail
           go_meet
           case rel=>exact ⟨_,_,rfl,by rw [HFIN.out];exact ownw12,bX⟩
         ·try simp only [qZ]
          go_simp
          refine hK.out _ _ ?_ fun _=>?_
          ·trivial
          clear hK K
          try simp only [Act.put,qZ]
          refine tR 0 fun K hK=>?_
          try simp only [qZ]
          go_simp
          refine hK.out _ _ ?_ fun _=>?_
          ·trivial
          clear hK K
          try simp only [Act.put,qZ]
          refine tR 4 fun K hK=>?_
          try simp only [qZ]
          rw [if_pos]
          rotate_left
          ·rfl
          refine wp_appendJ (.tmp 48) (.tmp 51) (by rfl) W0.heap.size (some ⟨W0.heap.size + 1,0,none⟩) (0) (0) ([]) (by simp [Act.eval,Act.put]) (own_emptyJG (W0.alloc (.cells #[.int .i64 (lg:Nat)] 3)) _ (W0.heap.size + 1) W0.heap.size (by simp) lX rfl) none (0) (0) (XP) (by simp [Act.eval,Act.put]) HLP.out (fun hm=>absurd hm (by omega)) HP1.out (by omega) lX ?_
          intro Aw4 capw4 w4 ownw4 hgr_w4 hb_w4 hs_w4
          (try simp only [zZ] at hs_w4)
          simp only [Nat.zero_add,List.nil_append] at ownw4
          refine hK.out _ _ ?_ fun _=>?_
          ·trivial
          clear hK K
          try simp only [Act.put,qZ]
          refine tR 7 fun K hK=>?_
          try simp only [qZ]
          rw [if_pos]
          rotate_left
          ·rfl
          refine wp_appendJ (.tmp 52) (.tmp 54) (by rfl) W0.heap.size Aw4 (capw4) (0) (XP) (by simp [Act.eval,Act.put]) (ownw4) (some ⟨W0.heap.size,0,none⟩) (1) (1) ([.int .i64 (lg:Nat)]) (by simp [Act.eval,Act.put]) rfl (fun _=>⟨W0.heap.size,0,rfl,HS0.out _ _ ((hgr_w4.block _ lX (by simp)).trans (by exact HBK3.out _))⟩) HX1.out (by omega) lX ?_
          intro Aw8 capw8 w8 ownw8 hgr_w8 hb_w8 hs_w8
          (try simp only [zZ] at hs_w8)
          refine hK.out _ _ ?_ fun _=>?_
          ·trivial
          clear hK K
          try simp only [Act.put,qZ]
          refine tR 11 fun K hK=>?_
          try simp only [qZ]
          rw [if_pos]
          rotate_left
          ·rfl
          refine wp_appendJ (.tmp 55) (.tmp 58) (by rfl) W0.heap.size Aw8 (capw8) (0 + 1) (XP ++ [.int .i64 (lg:Nat)]) (by simp [Act.eval,Act.put]) (ownw8) none (0) (0) (XQ) (by simp [Act.eval,Act.put]) HLQ.out (fun hm=>absurd hm (by omega)) HQ1.out (by omega) lX ?_
          intro Aw12 capw12 w12 ownw12 hgr_w12 hb_w12 hs_w12
          (try simp only [zZ] at hs_w12)
          try go_wp2_with fail
          refine hK.out _ _ ?_ fun _=>?_
          ·trivial
          clear hK K
          try simp only [Act.put,qZ]
          refine tY 12 ?_
          try simp only [Act.put,qZ]
          refine wpAnyH_done (by kernel_rfl) ?_ _
          try go_wp2_with fail
          go_meet
          case rel=>exact ⟨_,_,rfl,by rw [HFIN.out];exact ownw12,bX⟩
        ·subst hK0
         have HC1:=Lib.hid hS1
         have HC2:=Lib.hid hS2
         have HLP:=HLPn
         clear hS1 hS2
         have hn0:(0:Int) ≤ (n:Int):=by omega
         have hn1:(n:Int) ≤ (L:Int):=by omega
         have hn2:(n:Int) ≤ (ck:Int):=by omega
         by_cases hca:ck=n
         ·subst hca
          have HLQ:Hid (XQ.length=0):=Lib.hid (by have:=HLQn.out;omega)
          have HN:Hid (L + 1=ck + 1 + 0):=Lib.hid (by omega)
          refine wp_region_held_drew (S:=(fun _:World=>True)) (by kernel_rfl) ?_ fun _=>?_
          ·trivial
          refine tY 1 ?_
          try simp only [Act.put,qZ]
          refine tY 2 ?_
          try simp only [Act.put,qZ]
          refine tY 3 ?_
          try simp only [Act.put,qZ]
          refine tY 5 ?_
          try simp only [Act.put,qZ]
          refine tY 8 ?_
          try simp only [Act.put,qZ]
          refine tY 9 ?_
          try simp only [Act.put,qZ]
          refine tY 10 ?_
          try simp only [Act.put,qZ]
          refine wpAnyH_ready (rs:=[0,6]) (by kernel_rfl) (by simp) ?_
          refine AllReadyH.cons rfl (fun K hK=>?_) (AllReadyH.cons rfl (fun K hK=>?_) AllReadyH.nil)
          ·try simp only [qZ]
           go_simp
           refine hK.out _ _ ?_ fun _=>?_
           ·trivial
           clear hK K
           try simp only [Act.put,qZ]
           refine wpAnyH_ready (rs:=[4,6]) (by kernel_rfl) (by simp) ?_
           refine AllReadyH.cons rfl (fun K hK=>?_) (AllReadyH.cons rfl (fun K hK=>?_) AllReadyH.nil)
           ·try simp only [qZ]
            rw [if_pos]
            rotate_left
            ·rfl
            refine wp_appendJ (.tmp 48) (.tmp 51) (by rfl) W0.heap.size (some ⟨W0.heap.size,0,none⟩) (0) (0) ([]) (by simp [Act.eval,Act.put]) (own_emptyJ W0 _ W0.heap.size lX rfl) (some ⟨gk,0,none⟩) (ck) (ck) (XP) (by simp [Act.eval,Act.put]) HLP.out (fun _=>⟨gk,0,rfl,HC1.out _ bX⟩) HP1.out (by omega) lX ?_
            intro Aw4 capw4 w4 ownw4 hgr_w4 hb_w4 hs_w4
            (try simp only [zZ] at hs_w4)
            simp only [Nat.zero_add,List.nil_append] at ownw4
            refine hK.out _ _ ?_ fun _=>?_
            ·trivial
            clear hK K
            try simp only [Act.put,qZ]
            refine tR 6 fun K hK=>?_
            try simp only [qZ]
            go_simp
            refine hK.out _ _ ?_ fun _=>?_
            ·trivial
            clear hK K
            try simp only [Act.put,qZ]
            refine tR 7 fun K hK=>?_
            try simp only [qZ]
            rw [if_pos]
            rotate_left
            ·rfl
            refine wp_appendJ (.tmp 52) (.tmp 54) (by rfl) W0.heap.size Aw4 (capw4) (ck) (XP) (by simp [Act.eval,Act.put]) (ownw4.alloc _) (some ⟨w4.heap.size,0,none⟩) (1) (1) ([.int .i64 (lg:Nat)]) (by simp [Act.eval,Act.put]) rfl (fun _=>⟨w4.heap.size,0,rfl,HS0.out _ _ (heap_alloc_new _ _)⟩) HX1.out (by omega) lX ?_
            intro Aw8 capw8 w8 ownw8 hgr_w8 hb_w8 hs_w8
            (try simp only [zZ] at hs_w8)
            refine hK.out _ _ ?_ fun _=>?_
            ·trivial
            clear hK K
            try simp only [Act.put,qZ]
            refine tR 11 fun K hK=>?_
            try simp only [qZ]
            rw [if_pos]
            rotate_left
            ·rfl
            refine wp_appendJ (.tmp 55) (.tmp 58) (by rfl) W0.heap.size Aw8 (capw8) (ck + 1) (XP ++ [.int .i64 (lg:Nat)]) (by simp [Act.eval,Act.put]) (ownw8) (some ⟨gk,0,none⟩) (0) (0) (XQ) (by simp [Act.eval,Act.put]) HLQ.out (fun hm=>absurd hm (by omega)) HQ1.out (by omega) lX ?_
            intro Aw12 capw12 w12 ownw12 hgr_w12 hb_w12 hs_w12
            (try simp only [zZ] at hs_w12)
            try go_wp2_with fail
            refine hK.out _ _ ?_ fun _=>?_
            ·trivial
            clear hK K
            try simp only [Act.put,qZ]
            refine tY 12 ?_
            try simp only [Act.put,qZ]
            refine wpAnyH_done (by kernel_rfl) ?_ _
            try go_wp2_with fail
            go_meet
            case rel=>exact ⟨_,_,by rw [HN.out],by rw [HN.out,HFIN.out];exact ownw12,bX⟩
           ·try simp only [qZ]
            go_simp
            refine hK.out _ _ ?_ fun _=>?_
            ·trivial
            clear hK K
            try simp only [Act.put,qZ]
            refine tR 4 fun K hK=>?_
            try simp only [qZ]
            rw [if_pos]
            rotate_left
            ·rfl
            refine wp_appendJ (.tmp 48) (.tmp 51) (by rfl) W0.heap.size (some ⟨W0.heap.size,0,none⟩) (0) (0) ([]) (by simp [Act.eval,Act.put]) ((own_emptyJ W0 _ W0.heap.size lX rfl).alloc _) (some ⟨gk,0,none⟩) (ck) (ck) (XP) (by simp [Act.eval,Act.put]) HLP.out (fun _=>⟨gk,0,rfl,HC1.out _ bX⟩) HP1.out (by omega) lX ?_
            intro Aw4 capw4 w4 ownw4 hgr_w4 hb_w4 hs_w4
            (try simp only [zZ] at hs_w4)
            simp only [Nat.zero_add,List.nil_append] at ownw4
            refine hK.out _ _ ?_ fun _=>?_
            ·trivial
            clear hK K
            try simp only [Act.put,qZ]
            refine tR 7 fun K hK=>?_
            try simp only [qZ]
            rw [if_pos]
            rotate_left
            ·rfl
            refine wp_appendJ (.tmp 52) (.tmp 54) (by rfl) W0.heap.size Aw4 (capw4) (ck) (XP) (by simp [Act.eval,Act.put]) (ownw4) (some ⟨W0.heap.size + 1,0,none⟩) (1) (1) ([.int .i64 (lg:Nat)]) (by simp [Act.eval,Act.put]) rfl (fun _=>⟨W0.heap.size + 1,0,rfl,HS0.out _ _ ((hgr_w4.block _ lX (by simp)).trans (by exact HBK.out _))⟩) HX1.out (by omega) lX ?_
            intro Aw8 capw8 w8 ownw8 hgr_w8 hb_w8 hs_w8
            (try simp only [zZ] at hs_w8)
            refine hK.out _ _ ?_ fun _=>?_
            ·trivial
            clear hK K
            try simp only [Act.put,qZ]
            refine tR 11 fun K hK=>?_
            try simp only [qZ]
            rw [if_pos]
            rotate_left
            ·rfl
            refine wp_appendJ (.tmp 55) (.tmp 58) (by rfl) W0.heap.size Aw8 (capw8) (ck + 1) (XP ++ [.int .i64 (lg:Nat)]) (by simp [Act.eval,Act.put]) (ownw8) (some ⟨gk,0,none⟩) (0) (0) (XQ) (by simp [Act.eval,Act.put]) HLQ.out (fun hm=>absurd hm (by omega)) HQ1.out (by omega) lX ?_
            intro Aw12 capw12 w12 ownw12 hgr_w12 hb_w12 hs_w12
            (try simp only [zZ] at hs_w12)
            try go_wp2_with fail
            refine hK.out _ _ ?_ fun _=>?_
            ·trivial
            clear hK K
            try simp only [Act.put,qZ]
            refine tY 12 ?_
            try simp only [Act.put,qZ]
            refine wpAnyH_done (by kernel_rfl) ?_ _
            try go_wp2_with fail
            go_meet
            case rel=>exact ⟨_,_,by rw [HN.out],by rw [HN.out,HFIN.out];exact ownw12,bX⟩
          ·try simp only [qZ]
           go_simp
           refine hK.out _ _ ?_ fun _=>?_
           ·trivial
           clear hK K
           try simp only [Act.put,qZ]
           refine tR 0 fun K hK=>?_
           try simp only [qZ]
           go_simp
           refine hK.out _ _ ?_ fun _=>?_
           ·trivial
           clear hK K
           try simp only [Act.put,qZ]
           refine tR 4 fun K hK=>?_
           try simp only [qZ]
           rw [if_pos]
           rotate_left
           ·rfl
           refine wp_appendJ (.tmp 48) (.tmp 51) (by rfl) W0.heap.size (some ⟨W0.heap.size + 1,0,none⟩) (0) (0) ([]) (by simp [Act.eval,Act.put]) (own_emptyJG (W0.alloc (.cells #[.int .i64 (lg:Nat)] 3)) _ (W0.heap.size + 1) W0.heap.size (by simp) lX rfl) (some ⟨gk,0,none⟩) (ck) (ck) (XP) (by simp [Act.eval,Act.put]) HLP.out (fun _=>⟨gk,0,rfl,HC1.out _ bX⟩) HP1.out (by omega) lX ?_
           intro Aw4 capw4 w4 ownw4 hgr_w4 hb_w4 hs_w4
           (try simp only [zZ] at hs_w4)
           simp only [Nat.zero_add,List.nil_append] at ownw4
           refine hK.out _ _ ?_ fun _=>?_
           ·trivial
           clear hK K
           try simp only [Act.put,qZ]
           refine tR 7 fun K hK=>?_
           try simp only [qZ]
           rw [if_pos]
           rotate_left
           ·rfl
           refine wp_appendJ (.tmp 52) (.tmp 54) (by rfl) W0.heap.size Aw4 (capw4) (ck) (XP) (by simp [Act.eval,Act.put]) (ownw4) (some ⟨W0.heap.size,0,none⟩) (1) (1) ([.int .i64 (lg:Nat)]) (by simp [Act.eval,Act.put]) rfl (fun _=>⟨W0.heap.size,0,rfl,HS0.out _ _ ((hgr_w4.block _ lX (by simp)).trans (by exact HBK3.out _))⟩) HX1.out (by omega) lX ?_
           intro Aw8 capw8 w8 ownw8 hgr_w8 hb_w8 hs_w8
           (try simp only [zZ] at hs_w8)
           refine hK.out _ _ ?_ fun _=>?_
           ·trivial
           clear hK K
           try simp only [Act.put,qZ]
           refine tR 11 fun K hK=>?_
           try simp only [qZ]
           rw [if_pos]
           rotate_left
           ·rfl
           refine wp_appendJ (.tmp 55) (.tmp 58) (by rfl) W0.heap.size Aw8 (capw8) (ck + 1) (XP ++ [.int .i64 (lg:Nat)]) (by simp [Act.eval,Act.put]) (ownw8) (some ⟨gk,0,none⟩) (0) (0) (XQ) (by simp [Act.eval,Act.put]) HLQ.out (fun hm=>absurd hm (by omega)) HQ1.out (by omega) lX ?_
           intro Aw12 capw12 w12 ownw12 hgr_w12 hb_w12 hs_w12
           (try simp only [zZ] at hs_w12)
           try go_wp2_with fail
           refine hK.out _ _ ?_ fun _=>?_
           ·trivial
           clear hK K
           try simp only [Act.put,qZ]
           refine tY 12 ?_
           try simp only [Act.put,qZ]
           refine wpAnyH_done (by kernel_rfl) ?_ _
           try go_wp2_with fail
           go_meet
           case rel=>exact ⟨_,_,by rw [HN.out],by rw [HN.out,HFIN.out];exact ownw12,bX⟩
         ·have HLQ:=HLQn
          have HN:Hid (L + 1=n + 1 + (L - n)):=Lib.hid (by omega)
          refine wp_region_held_drew (S:=(fun _:World=>True)) (by kernel_rfl) ?_ fun _=>?_
          ·trivial
          refine tY 1 ?_
          try simp only [Act.put,qZ]
          refine tY 2 ?_
          try simp only [Act.put,qZ]
          refine tY 3 ?_
          try simp only [Act.put,qZ]
          refine tY 5 ?_
          try simp only [Act.put,qZ]
          refine tY 8 ?_
          try simp only [Act.put,qZ]
          refine tY 9 ?_
          try simp only [Act.put,qZ]
          refine tY 10 ?_
          try simp only [Act.put,qZ]
          refine wpAnyH_ready (rs:=[0,6]) (by kernel_rfl) (by simp) ?_
          refine AllReadyH.cons rfl (fun K hK=>?_) (AllReadyH.cons rfl (fun K hK=>?_) AllReadyH.nil)
          ·try simp only [qZ]
           go_simp
           refine hK.out _ _ ?_ fun _=>?_
           ·trivial
           clear hK K
           try simp only [Act.put,qZ]
           refine wpAnyH_ready (rs:=[4,6]) (by kernel_rfl) (by simp) ?_
           refine AllReadyH.cons rfl (fun K hK=>?_) (AllReadyH.cons rfl (fun K hK=>?_) AllReadyH.nil)
           ·try simp only [qZ]
            rw [if_pos]
            rotate_left
            ·rfl
            refine wp_appendJ (.tmp 48) (.tmp 51) (by rfl) W0.heap.size (some ⟨W0.heap.size,0,none⟩) (0) (0) ([]) (by simp [Act.eval,Act.put]) (own_emptyJ W0 _ W0.heap.size lX rfl) (some ⟨gk,0,none⟩) (n) (ck) (XP) (by simp [Act.eval,Act.put]) HLP.out (fun _=>⟨gk,0,rfl,HC1.out _ bX⟩) HP1.out (by omega) lX ?_
            intro Aw4 capw4 w4 ownw4 hgr_w4 hb_w4 hs_w4
            (try simp only [zZ] at hs_w4)
            simp only [Nat.zero_add,List.nil_append] at ownw4
            refine hK.out _ _ ?_ fun _=>?_
            ·trivial
            clear hK K
            try simp only [Act.put,qZ]
            refine tR 6 fun K hK=>?_
            try simp only [qZ]
            go_simp
            refine hK.out _ _ ?_ fun _=>?_
            ·trivial
            clear hK K
            try simp only [Act.put,qZ]
            refine tR 7 fun K hK=>?_
            try simp only [qZ]
            rw [if_pos]
            rotate_left
            ·rfl
            refine wp_appendJ (.tmp 52) (.tmp 54) (by rfl) W0.heap.size Aw4 (capw4) (n) (XP) (by simp [Act.eval,Act.put]) (ownw4.alloc _) (some ⟨w4.heap.size,0,none⟩) (1) (1) ([.int .i64 (lg:Nat)]) (by simp [Act.eval,Act.put]) rfl (fun _=>⟨w4.heap.size,0,rfl,HS0.out _ _ (heap_alloc_new _ _)⟩) HX1.out (by omega) lX ?_
            intro Aw8 capw8 w8 ownw8 hgr_w8 hb_w8 hs_w8
            (try simp only [zZ] at hs_w8)
            refine hK.out _ _ ?_ fun _=>?_
            ·trivial
            clear hK K
            try simp only [Act.put,qZ]
            refine tR 11 fun K hK=>?_
            try simp only [qZ]
            rw [if_pos]
            rotate_left
            ·rfl
            refine wp_appendJ (.tmp 55) (.tmp 58) (by rfl) W0.heap.size Aw8 (capw8) (n + 1) (XP ++ [.int .i64 (lg:Nat)]) (by simp [Act.eval,Act.put]) (ownw8) (some ⟨gk,n,none⟩) (L - n) (ck - n) (XQ) (by simp [Act.eval,Act.put]) HLQ.out (fun _=>⟨gk,n,rfl,HC2.out _ bX⟩) HQ1.out (by omega) lX ?_
            intro Aw12 capw12 w12 ownw12 hgr_w12 hb_w12 hs_w12
            (try simp only [zZ] at hs_w12)
            try go_wp2_with fail
            refine hK.out _ _ ?_ fun _=>?_
            ·trivial
            clear hK K
            try simp only [Act.put,qZ]
            refine tY 12 ?_
            try simp only [Act.put,qZ]
            refine wpAnyH_done (by kernel_rfl) ?_ _
            try go_wp2_with fail
            go_meet
            case rel=>exact ⟨_,_,by rw [HN.out],by rw [HN.out,HFIN.out];exact ownw12,bX⟩
           ·try simp only [qZ]
            go_simp
            refine hK.out _ _ ?_ fun _=>?_
            ·trivial
            clear hK K
            try simp only [Act.put,qZ]
            refine tR 4 fun K hK=>?_
            try simp only [qZ]
            rw [if_pos]
            rotate_left
            ·rfl
            refine wp_appendJ (.tmp 48) (.tmp 51) (by rfl) W0.heap.size (some ⟨W0.heap.size,0,none⟩) (0) (0) ([]) (by simp [Act.eval,Act.put]) ((own_emptyJ W0 _ W0.heap.size lX rfl).alloc _) (some ⟨gk,0,none⟩) (n) (ck) (XP) (by simp [Act.eval,Act.put]) HLP.out (fun _=>⟨gk,0,rfl,HC1.out _ bX⟩) HP1.out (by omega) lX ?_
            intro Aw4 capw4 w4 ownw4 hgr_w4 hb_w4 hs_w4
            (try simp only [zZ] at hs_w4)
            simp only [Nat.zero_add,List.nil_append] at ownw4
            refine hK.out _ _ ?_ fun _=>?_
            ·trivial
            clear hK K
            try simp only [Act.put,qZ]
            refine tR 7 fun K hK=>?_
            try simp only [qZ]
            rw [if_pos]
            rotate_left
            ·rfl
            refine wp_appendJ (.tmp 52) (.tmp 54) (by rfl) W0.heap.size Aw4 (capw4) (n) (XP) (by simp [Act.eval,Act.put]) (ownw4) (some ⟨W0.heap.size + 1,0,none⟩) (1) (1) ([.int .i64 (lg:Nat)]) (by simp [Act.eval,Act.put]) rfl (fun _=>⟨W0.heap.size + 1,0,rfl,HS0.out _ _ ((hgr_w4.block _ lX (by simp)).trans (by exact HBK.out _))⟩) HX1.out (by omega) lX ?_
            intro Aw8 capw8 w8 ownw8 hgr_w8 hb_w8 hs_w8
            (try simp only [zZ] at hs_w8)
            refine hK.out _ _ ?_ fun _=>?_
            ·trivial
            clear hK K
            try simp only [Act.put,qZ]
            refine tR 11 fun K hK=>?_
            try simp only [qZ]
            rw [if_pos]
            rotate_left
            ·rfl
            refine wp_appendJ (.tmp 55) (.tmp 58) (by rfl) W0.heap.size Aw8 (capw8) (n + 1) (XP ++ [.int .i64 (lg:Nat)]) (by simp [Act.eval,Act.put]) (ownw8) (some ⟨gk,n,none⟩) (L - n) (ck - n) (XQ) (by simp [Act.eval,Act.put]) HLQ.out (fun _=>⟨gk,n,rfl,HC2.out _ bX⟩) HQ1.out (by omega) lX ?_
            intro Aw12 capw12 w12 ownw12 hgr_w12 hb_w12 hs_w12
            (try simp only [zZ] at hs_w12)
            try go_wp2_with fail
            refine hK.out _ _ ?_ fun _=>?_
            ·trivial
            clear hK K
            try simp only [Act.put,qZ]
            refine tY 12 ?_
            try simp only [Act.put,qZ]
            refine wpAnyH_done (by kernel_rfl) ?_ _
            try go_wp2_with fail
            go_meet
            case rel=>exact ⟨_,_,by rw [HN.out],by rw [HN.out,HFIN.out];exact ownw12,bX⟩
          ·try simp only [qZ]
           go_simp
           refine hK.out _ _ ?_ fun _=>?_
           ·trivial
           clear hK K
           try simp only [Act.put,qZ]
           refine tR 0 fun K hK=>?_
           try simp only [qZ]
           go_simp
           refine hK.out _ _ ?_ fun _=>?_
           ·trivial
           clear hK K
           try simp only [Act.put,qZ]
           refine tR 4 fun K hK=>?_
           try simp only [qZ]
           rw [if_pos]
           rotate_left
           ·rfl
           refine wp_appendJ (.tmp 48) (.tmp 51) (by rfl) W0.heap.size (some ⟨W0.heap.size + 1,0,none⟩) (0) (0) ([]) (by simp [Act.eval,Act.put]) (own_emptyJG (W0.alloc (.cells #[.int .i64 (lg:Nat)] 3)) _ (W0.heap.size + 1) W0.heap.size (by simp) lX rfl) (some ⟨gk,0,none⟩) (n) (ck) (XP) (by simp [Act.eval,Act.put]) HLP.out (fun _=>⟨gk,0,rfl,HC1.out _ bX⟩) HP1.out (by omega) lX ?_
           intro Aw4 capw4 w4 ownw4 hgr_w4 hb_w4 hs_w4
           (try simp only [zZ] at hs_w4)
           simp only [Nat.zero_add,List.nil_append] at ownw4
           refine hK.out _ _ ?_ fun _=>?_
           ·trivial
           clear hK K
           try simp only [Act.put,qZ]
           refine tR 7 fun K hK=>?_
           try simp only [qZ]
           rw [if_pos]
           rotate_left
           ·rfl
           refine wp_appendJ (.tmp 52) (.tmp 54) (by rfl) W0.heap.size Aw4 (capw4) (n) (XP) (by simp [Act.eval,Act.put]) (ownw4) (some ⟨W0.heap.size,0,none⟩) (1) (1) ([.int .i64 (lg:Nat)]) (by simp [Act.eval,Act.put]) rfl (fun _=>⟨W0.heap.size,0,rfl,HS0.out _ _ ((hgr_w4.block _ lX (by simp)).trans (by exact HBK3.out _))⟩) HX1.out (by omega) lX ?_
           intro Aw8 capw8 w8 ownw8 hgr_w8 hb_w8 hs_w8
           (try simp only [zZ] at hs_w8)
           refine hK.out _ _ ?_ fun _=>?_
           ·trivial
           clear hK K
           try simp only [Act.put,qZ]
           refine tR 11 fun K hK=>?_
           try simp only [qZ]
           rw [if_pos]
           rotate_left
           ·rfl
           refine wp_appendJ (.tmp 55) (.tmp 58) (by rfl) W0.heap.size Aw8 (capw8) (n + 1) (XP ++ [.int .i64 (lg:Nat)]) (by simp [Act.eval,Act.put]) (ownw8) (some ⟨gk,n,none⟩) (L - n) (ck - n) (XQ) (by simp [Act.eval,Act.put]) HLQ.out (fun _=>⟨gk,n,rfl,HC2.out _ bX⟩) HQ1.out (by omega) lX ?_
           intro Aw12 capw12 w12 ownw12 hgr_w12 hb_w12 hs_w12
           (try simp only [zZ] at hs_w12)
           try go_wp2_with fail
           refine hK.out _ _ ?_ fun _=>?_
           ·trivial
           clear hK K
           try simp only [Act.put,qZ]
           refine tY 12 ?_
           try simp only [Act.put,qZ]
           refine wpAnyH_done (by kernel_rfl) ?_ _
           try go_wp2_with fail
           go_meet
           case rel=>exact ⟨_,_,by rw [HN.out],by rw [HN.out,HFIN.out];exact ownw12,bX⟩
       case rest=>
        obtain ⟨A5,c5,rfl,o5,b5⟩:=hcut
        have HI3:=Lib.hid (HNX.out _ HAD.out)
        have HE3:=Lib.hid (HNE.out _ HAD.out)
        have O5:=Lib.hid (owns_monoN o5 hs0)
        have b6:Below w1.heap.size w1 wc:=below_trans b2 b5 hs0
        have HLI:Hid ((insI ts n (lg:Int)).length=L + 1):=Lib.hid (by simp [insI];have:=hLn.out;omega)
        have hL5:L + 1 ≤ 4097:=by
         have h1:=HLI.out
         rw [HAD.out,srtD_len,rInts_len] at h1
         have:=runsL_len us k
         omega
        clear o5 HNX HNE OK0 OW2 HINS
        go_wp2
        go_roundw
        case rel=>exact ⟨k + 1,0,L + 1,c5,A5,insI ts n (lg:Int),rfl,rfl,by go_num,by omega,by omega,HLI,hL5,HI3,HE3,O5,b6⟩
        case measure=>(simp [intOf];try omega)
   ·obtain rfl:k=N + 1:=by omega
    have d1:decide (((N + 1:Nat):Int) ≤ (N:Int))=false:=decide_eq_false (by omega)
    have d1n:decide (N + 1 ≤ N)=false:=decide_eq_false (by omega)
    have HTS:=Lib.hid (HIE.out rfl)
    have HL:=Lib.hid (show (srtD (rInts us N)).length=L by rw [← HTS.out];exact hLn.out)
    have HIR:Hid (IRow wr wr.heap.size K (srtD (rInts us N))):=Lib.hid (by
     rw [← HTS.out]
     exact ⟨fun x hx=>rInts_in us N N4 x ((srtD_perm _).subset (by rw [HTS.out] at hx;exact hx)),fun h0=>by
      obtain ⟨g,hg1,hg2,_⟩:=rowI_cell OW.out 0 (by rw [← hLn.out];exact h0) h0
      refine ⟨g,0,hg1,hg2,fun i hi=>?_⟩
      obtain ⟨g',hg1',_,hc⟩:=rowI_cell OW.out i (by rw [← hLn.out];exact hi) hi
      rw [hg1] at hg1'
      injection hg1' with hg1'
      injection hg1' with hg1'
      subst hg1'
      rw [Nat.zero_add,hc,List.getD_eq_getElem?_getD,List.getElem?_eq_getElem hi]
      rfl⟩)
    have bw:Below w.heap.size w wr:=below_trans b1 hb_wr b1.size
    clear HI HIE OW
    go_wp2
    go_ret2
    exact ⟨K,ck,by rw [HL.out];rfl,HIR.out,bw⟩
end
theorem Two.grownF {w w':World} {g:Nat} {row:Option Nat} {u0 u1:Value} (h:Two w g u0 u1) (hg:w.grownBy w' row) (hne:some g ≠ row):Two w' g u0 u1:=by
 have hb:=hg.block g (World.block_lt_of_cell? _ _ h.c0) hne
 exact ⟨(World.cell?_of_block (a:=⟨g,0,none⟩) hb).trans h.c0,(World.cell?_of_block (a:=⟨g,1,none⟩) hb).trans h.c1,fun i=>(World.frozen?_of_block (a:=⟨g,i,none⟩) hb).trans (h.fr i)⟩
set_option maxHeartbeats 4000000 in
theorem frec_any {w:World} {b B:Nat} {v:Hv} {O:Option Addr} {co:Nat} {s:Sc} (hx:E8 w b (.slice v.A s.h.ws.length v.ca) (.int .i64 s.h.n) (.slice v.U s.h.us.length v.cu) (.slice v.V s.h.l.length v.cv) (.int .i64 s.n) (.slice O s.os.length co) (.int .u64 (s.fa:Nat)) (.int .u64 (s.go:Nat))) (m:OwnsSc w B v O s) (hb:b < B) (hB:B ≤ w.heap.size) (ho:Right s.n s.os) (hu:Right s.n s.h.us) (hn:s.n=s.h.n) (hf:s.fa < W64) (s':Sc) (e':s'=newSc s s.h) :
  Calls Tryz.prog 136 #[.pointer (some ⟨b,0,none⟩)] w fun e w'=>∃ O' co',e=.returned (.tuple #[])∧E8 w' b (.slice v.A s'.h.ws.length v.ca) (.int .i64 s'.h.n) (.slice v.U s'.h.us.length v.cu) (.slice v.V s'.h.l.length v.cv) (.int .i64 s'.n) (.slice O' s'.os.length co') (.int .u64 (s'.fa:Nat)) (.int .u64 (s'.go:Nat))∧OwnsSc w' B v O' s'∧w.grownBy w' (some b):=by
 obtain ⟨h,n,os,fa,go⟩:=s
 subst e'
 unfold newSc
 simp only at *
 have hms:=right_both ho (right_same ho hu)
 have n0:=ho.1
 have n1:=ho.2.1
 have hlong:=ho.long
 obtain ⟨N,rfl⟩:∃ N:Nat,n=(N:Int):=⟨n.toNat,by omega⟩
 simp only [Int.toNat_natCast] at *
 have HMI:=Lib.hid fun (w:World) m=>fmissing_in (w:=w) (v:=v) (O:=O) (s:=⟨h,(N:Nat),os,fa,go⟩) co m ho hu hn
 unfold scV misW at HMI
 simp only at HMI
 generalize bothTo os h.us h.us.length=ms at *
 unfold Fresh at HMI
 have HPU:=Lib.hid fun (w:World) (O:Option Addr) (co:Nat) (os:List Nat) (i:Nat) hr (hR:Right (N:Nat) os) hi=>put_in (N:=(N:Nat)) (A:=O) (ws:=os) (w:=w) (cap:=co) (v:=false) (i:=(i:Int)) hr hR (by omega) hi
 simp only [Int.toNat_natCast] at HPU
 unfold Fresh at HPU
 have HFI:=Lib.hid fun (w:World) (A:Option Addr) (c:Nat) (a:Int) hr h0 h1=>first_in (n:=(N:Nat)) (A:=A) (ws:=ms) (w:=w) (cap:=c) (a:=a) (v:=true) hr hms h0 h1
 unfold Told at HFI
 have HRO:Hid (∀ p:Nat,p ≤ N → Right (N:Nat) (recW ms p os)):=Lib.hid fun p hp=>recW_right ms ho p (by omega)
 have hm0:=m.h
 have ho0:=m.o
 have hx0:=hx
 have hsm:=m.sm
 clear m ho hu hn hms
 obtain ⟨x0,x1,x2,x3,x4,x5,x6,x7,xf⟩:=id hx
 go_enter Tryz.func136,Tryz.ntmps136
 go_wp2_with fail
 go_at_call 203
 refine (HMI.out _ hsm).mono ?_
 rintro e w1 ⟨A1,cM,rfl,o1,hb_w1⟩
 have hx1:=(hx0.later hb_w1).later ((Below.refl _ _).alloc (Nat.le_refl _) (.cells #[.int .i64 (N:Nat),.slice A1 ms.length cM] 26))
 have hm1:=(hm0.later hb_w1).later ((Below.refl _ _).alloc (Nat.le_refl _) (.cells #[.int .i64 (N:Nat),.slice A1 ms.length cM] 26))
 have ho1:=(ho0.later hb_w1).later ((Below.refl _ _).alloc (Nat.le_refl _) (.cells #[.int .i64 (N:Nat),.slice A1 ms.length cM] 26))
 have oM:=(o1.later ((Below.refl _ _).alloc (Nat.le_refl _) (.cells #[.int .i64 (N:Nat),.slice A1 ms.length cM] 26)))
 have hg1:=grF_later (grF_later (grF_refl w (some b)) hb_w1) ((Below.refl _ _).alloc (Nat.le_refl _) (.cells #[.int .i64 (N:Nat),.slice A1 ms.length cM] 26))
 have t1:=Two.new w1 (.int .i64 (N:Nat)) (.slice A1 ms.length cM) 26
 have s1:=hb_w1.size
 have hbw:=hx0.lt
 clear hx0 hm0 ho0 hsm o1 hb_w1 x0 x1 x2 x3 x4 x5 x6 x7 xf
 go_wp2_with fail
 generalize hWW:w1.alloc (.cells #[.int .i64 (N:Nat),.slice A1 ms.length cM] 26)=W1 at *
 have sW:w.heap.size < W1.heap.size:=by rw [← hWW,World.size_alloc];omega
 clear hWW
 have hbgm:b < w1.heap.size:=by omega
 generalize hgm:w1.heap.size=gm at *
 clear hgm
 go_at_call 206
 refine (HFI.out _ _ _ _ oM.row (by omega) (by omega)).mono ?_
 rintro e w2 ⟨⟨i0,y0,rfl,hF0⟩,hb_w2⟩
 have hx2:=hx1.later hb_w2
 have hm2:=hm1.later hb_w2
 have ho2:=ho1.later hb_w2
 have oM2:=oM.later hb_w2
 have hg2:=grF_later hg1 hb_w2
 have t2:=t1.later hb_w2
 have s2:=hb_w2.size
 clear hx1 hm1 ho1 oM hg1 t1 hb_w2
 have HF0:=Lib.hid hF0
 have hI:Hid (OwnsSc w2 B v O ⟨h,(N:Nat),os,fa,go⟩):=Lib.hid ⟨hm2,ho2⟩
 have hX2:=Lib.hid hx2
 have hfa:Hid ((fa + countTo ms 0) % W64=fa):=Lib.hid (by show (fa + 0) % W64=fa;rw [Nat.add_zero];exact Nat.mod_eq_of_lt hf)
 clear hF0 hm2 ho2 hx2 hf
 go_wp2_with fail
 go_loopw [4,5] (fun iv yv wr=>∃ (p:Nat) (i y:Int) (O1:Option Addr) (c1:Nat) (os1:List Nat),iv=.int .i64 i∧yv=.int .i64 y∧Hid (FirstP ms true (p:Int) (N:Nat) i y)∧p ≤ N∧Hid (os1=recW ms p os)∧E8 wr b (.slice v.A h.ws.length v.ca) (.int .i64 h.n) (.slice v.U h.us.length v.cu) (.slice v.V h.l.length v.cv) (.int .i64 (N:Nat)) (.slice O1 os1.length c1) (.int .u64 (((fa + countTo ms p) % W64):Nat)) (.int .u64 (go:Nat))∧OwnsSc wr B v O1 ⟨h,(N:Nat),os1,((fa + countTo ms p) % W64),go⟩∧w.grownBy wr (some b)∧Two wr gm (.int .i64 (N:Nat)) (.slice A1 ms.length cM)∧Own wr w.heap.size A1 ms) (fun iv yv _=>if intOf yv=0 then ((N:Int) - intOf iv).toNat + 1 else 0)
 case atStart=>exact ⟨0,i0,y0,O,co,os,rfl,rfl,HF0.out,Nat.zero_le _,Lib.hid rfl,by rw [hfa.out];exact hX2.out,by rw [hfa.out];exact hI.out,hg2,t2,oM2⟩
 case round=>
  clear hg2 t2 oM2 hI hX2
  obtain ⟨p,i,y,O1,c1,os1,rfl,rfl,hF,hpN,eo,hx,m,hg,t,oM⟩:=hrel
  have hsz:=hg.size
  have hlt:=hx.lt
  have tl:=World.block_lt_of_cell? _ _ t.c0
  have hl0:=hlong
  rcases hF.out with ⟨rfl,p1,p2,p3,p4⟩ | ⟨rfl,rfl,p4⟩
  ·obtain ⟨j,rfl⟩:∃ j:Nat,i=(j:Int):=⟨i.toNat,by omega⟩
   simp only [Int.toNat_natCast] at p3
   have hskip:∀ k,p ≤ k → k < j → tb ms k=false:=fun k h1 h2=>by
    have:=p4 k (by omega) (by omega)
    simpa using this
   have e1:=recW_skip ms os (a:=p) (b:=j) (by omega) hskip
   have e2:=count_skip (ws:=ms) (a:=p) (b:=j) (by omega) hskip
   have E3:Hid (putW os1 j false=recW ms (j + 1) os):=Lib.hid (by rw [recW,if_pos p3,e1,eo.out])
   have E4:countTo ms (j + 1)=countTo ms p + 1:=by rw [countTo,e2,p3];rfl
   have hR1:Right (N:Nat) os1:=by rw [eo.out];exact HRO.out p hpN
   obtain ⟨F,hFF⟩:∃ F,Hid ((fa + countTo ms p) % W64=F):=⟨_,Lib.hid rfl⟩
   obtain ⟨F',hFF'⟩:∃ F',Hid ((fa + countTo ms (j + 1)) % W64=F'):=⟨_,Lib.hid rfl⟩
   have hadd:IntKind.u64.wrap ((F:Int) + 1)=(F':Int):=by
    rw [← hFF.out,← hFF'.out,E4]
    unfold W64
    rw [IntKind.wrap_u64]
    omega
   rw [hFF.out] at hx m
   clear e1 e2 hskip p4 hF p3 E4
   have hne:gm ≠ b:=by omega
   have hne2:b ≠ gm:=by omega
   obtain ⟨x0,x1,x2,x3,x4,x5,x6,x7,xf⟩:=id hx
   go_wp2_with fail
   go_at_call 123
   refine (HPU.out _ _ _ _ j m.o.row hR1 p2).mono ?_
   rintro e w3 ⟨A2,c2,rfl,o2,hb_w3⟩
   have hx3:=hx.later hb_w3
   have mh:=m.h.later hb_w3
   have hg3:=grF_later hg hb_w3
   have t3:=t.later hb_w3
   have oM3:=oM.later hb_w3
   have s3:=hb_w3.size
   have o3:=o2.mono (B':=B) (by omega)
   clear o2 hb_w3 hx m hg t oM x0 x1 x2 x3 x4 x5 x6 x7 xf
   have hx4:=((hx3.set4 (.int .i64 (N:Nat))).set5 (.slice A2 (putW os1 j false).length c2)).set6 (.int .u64 (F':Nat))
   have g4:=grF_set (grF_set (grF_set (grF_refl w3 (some b)) 4 (.int .i64 (N:Nat))) 5 (.slice A2 (putW os1 j false).length c2)) 6 (.int .u64 (F':Nat))
   have mh4:=((mh.far (p:=⟨b,4,none⟩) hb (.int .i64 (N:Nat))).far (p:=⟨b,5,none⟩) hb (.slice A2 (putW os1 j false).length c2)).far (p:=⟨b,6,none⟩) hb (.int .u64 (F':Nat))
   have o4:=((o3.far (p:=⟨b,4,none⟩) (.inl hb) (.int .i64 (N:Nat))).far (p:=⟨b,5,none⟩) (.inl hb) (.slice A2 (putW os1 j false).length c2)).far (p:=⟨b,6,none⟩) (.inl hb) (.int .u64 (F':Nat))
   have t4:=t3.grownF g4 (by intro e;injection e with e;exact hne e)
   have oM4:=((oM3.far (p:=⟨b,4,none⟩) (.inl hbw) (.int .i64 (N:Nat))).far (p:=⟨b,5,none⟩) (.inl hbw) (.slice A2 (putW os1 j false).length c2)).far (p:=⟨b,6,none⟩) (.inl hbw) (.int .u64 (F':Nat))
   have hg4:=grF_trans hg3 g4
   obtain ⟨x0,x1,x2,x3,x4,x5,x6,x7,xf⟩:=id hx3
   obtain ⟨z0,z1,zf⟩:=id t3
   have tl3:=World.block_lt_of_cell? _ _ t3.c0
   clear hg3 mh o3 oM3
   go_wp2_with fail
   generalize ((w3.setCell ⟨b,4,none⟩ (.int .i64 (N:Nat))).setCell ⟨b,5,none⟩ (.slice A2 (putW os1 j false).length c2)).setCell ⟨b,6,none⟩ (.int .u64 (F':Nat))=W4 at *
   clear z0 z1 zf x0 x1 x2 x3 x4 x5 x6 x7 xf
   go_at_call 206
   refine (HFI.out _ _ _ _ oM4.row (by omega) (by omega)).mono ?_
   rintro e w5 ⟨⟨i2,y2,rfl,hF2⟩,hb_w5⟩
   have hx5:=hx4.later hb_w5
   have m5:OwnsSc w5 B v A2 ⟨h,(N:Nat),(putW os1 j false),F',go⟩:=⟨mh4.later hb_w5,o4.later hb_w5⟩
   have hg5:=grF_later hg4 hb_w5
   have t5:=t4.later hb_w5
   have oM5:=oM4.later hb_w5
   rw [← hFF'.out] at hx5 m5
   have HX5:=Lib.hid hx5
   have HM5:=Lib.hid m5
   have HF2:=Lib.hid (show FirstP ms true ((j + 1:Nat):Int) (N:Nat) i2 y2 by exact_mod_cast hF2)
   have HMS:Hid (∀ m:Nat,m=(if y2=0 then ((N:Int) - i2).toNat + 1 else 0) → m < ((N:Int) - (j:Int)).toNat + 1):=Lib.hid fun m hm=>by
    rcases hF2 with ⟨q0,q1,q2,_⟩ | ⟨q0,_⟩
    ·rw [if_pos q0] at hm;omega
    ·rw [if_neg (by omega)] at hm;omega
   have hjN:j + 1 ≤ N:=by omega
   clear hx4 mh4 o4 t4 oM4 hg4 hx3 t3 hb_w5 g4 hx5 m5 hF2 tl3 hadd
   go_wp2
   go_roundw
   case rel=>exact ⟨j + 1,i2,y2,A2,c2,putW os1 j false,rfl,rfl,HF2,hjN,E3,HX5.out,HM5.out,hg5,t5,oM5⟩
   case measure=>exact HMS.out _ rfl
  ·have hskip:∀ k,p ≤ k → k < N → tb ms k=false:=fun k h1 h2=>by
    have:=p4 k (by omega) (by omega)
    simpa using this
   have e1:=(recW_skip ms os (a:=p) (b:=N) hpN hskip).trans eo.out.symm
   have e2:=count_skip (ws:=ms) (a:=p) (b:=N) hpN hskip
   have HX:Hid (E8 wr b (.slice v.A h.ws.length v.ca) (.int .i64 h.n) (.slice v.U h.us.length v.cu) (.slice v.V h.l.length v.cv) (.int .i64 (N:Nat)) (.slice O1 (recW ms N os).length c1) (.int .u64 (((fa + countTo ms N) % W64):Nat)) (.int .u64 (go:Nat))):=Lib.hid (by rw [e1,e2];exact hx)
   have HM:Hid (OwnsSc wr B v O1 ⟨h,(N:Nat),(recW ms N os),((fa + countTo ms N) % W64),go⟩):=Lib.hid (by rw [e1,e2];exact m)
   clear e1 e2 hskip p4 hF hx m t oM
   go_wp2
   go_end0
   exact ⟨rfl,O1,⟨c1,HX.out⟩,HM.out,hg⟩
theorem NewE.zero {h:Hp} {n:Int} {m:Nat} {bl:Bool} {h':Hp} {a:Nat} {y:Int} (hE:NewE h n m bl h' a y) (hy:y ≠ 0):a=0:=by
 rcases hE with ⟨_,_,e,_⟩ | ⟨_,_,_,e,_⟩ | ⟨_,_,_,_,e⟩ | ⟨_,_,e,_⟩
 ·exact e
 ·exact e
 ·exact e
 ·exact absurd e hy
def FreshSa (w:World) (s':Sc) (a:Nat) (y:Int) (e:Ending) (w':World):Prop:=∃ v O c,e=.returned (.tuple #[scV v O c s',.int .u64 (a:Nat),.int .i64 y])∧OwnsSc w' w.heap.size v O s'∧Below w.heap.size w w'
def NwE (s:Sc) (n:Int) (mk:Nat) (bl:Bool) (s':Sc) (a:Nat) (y:Int):Prop:=(¬ OkS s∧s'=sc0∧a=0∧y=2) ∨ (OkS s∧(∃ h',NewE s.h n mk bl h' a y)∧y ≠ 0∧s'=s∧a=0) ∨ (OkS s∧∃ h',NewE s.h n mk bl h' a 0∧s'=newSc s h'∧y=0)
theorem NwE.ex (s:Sc) (n:Int) (mk:Nat) (bl:Bool):∃ s' a y,NwE s n mk bl s' a y:=by
 by_cases hk:OkS s
 ·obtain ⟨h',a,y,hE⟩:=NewE.ex s.h n mk bl
  by_cases hy:y=0
  ·subst hy
   exact ⟨_,_,_,.inr (.inr ⟨hk,h',hE,rfl,rfl⟩)⟩
  ·exact ⟨_,_,_,.inr (.inl ⟨hk,⟨h',hE⟩,hy,rfl,hE.zero hy⟩)⟩
 ·exact ⟨_,_,_,.inl ⟨hk,rfl,rfl,rfl⟩⟩
section
variable {w:World} {v:Hv} {O:Option Addr} {s:Sc} (co:Nat)
set_option maxHeartbeats 8000000 in
theorem fnew_any (hz:Sizes w) (m:SM w v O s) (hs:Short s.h) (hnil:v.V=none → v.cv=0) (hfa:s.fa < W64) (n:Int) (mk:Nat) (hmk:mk < W64) (bl:Bool) (s':Sc) (a:Nat) (y:Int) (hE:NwE s n mk bl s' a y) :
  Calls Tryz.prog 49 #[scV v O co s,.agg #[.int .i64 n,.int .u64 (mk:Nat)],.bool bl] w fun e w'=>FreshSa w s' a y e w':=by
 unfold FreshSa
 rcases hE with ⟨hk,rfl,rfl,rfl⟩ | ⟨hk,⟨h',hN⟩,hy,hss,rfl⟩ | ⟨hk,h',hN,he,rfl⟩
 ·have HV:=Lib.hid fun (w:World) z m=>fview_bad (w:=w) (v:=v) (O:=O) (s:=s) co z m hs hk
  clear hk hs
  unfold scV at HV ⊢
  go_enter Tryz.func49,Tryz.ntmps49
  go_wp2_with fail
  go_at_call 134
  refine (HV.out _ (hz.later bX) (m.later bX)).mono ?_
  rintro e w1 ⟨rfl,hb_w1⟩
  obtain ⟨hc_w1,hf_w1⟩:=bcell hb_w1;have hz_w1_w_0:w.heap.size < w1.heap.size:=lY hb_w1.size;have hz_w1_w_1:w.heap.size + 1 < w1.heap.size:=lY hb_w1.size;have hz_w1_w_2:w.heap.size + 2 < w1.heap.size:=lY hb_w1.size;have hs_w1:=hb_w1.size;(try simp only [zZ] at hs_w1)
  have b1:Below w.heap.size w w1:=bX
  have t0:=(E8.new ((w.alloc (.cells #[.slice v.A s.h.ws.length v.ca,.int .i64 s.h.n,.slice v.U s.h.us.length v.cu,.slice v.V s.h.l.length v.cv,.int .i64 s.n,.slice O s.os.length co,.int .u64 (s.fa:Nat),.int .u64 (s.go:Nat)] 79)).alloc (.cells #[.int .i64 n,.int .u64 (mk:Nat)] 34)) (.slice none 0 0) (.int .i64 0) (.slice none 0 0) (.slice none 0 0) (.int .i64 0) (.slice none 0 0) (.int .u64 0) (.int .u64 0) 79).later hb_w1
  simp only [zA] at t0
  obtain ⟨y0,y1,y2,y3,y4,y5,y6,y7,yf⟩:=id t0
  have ylt:=t0.lt
  unfold hv0 sc0 hp0 at *
  simp only at *
  have u0:=(t0.all (.slice none 0 0) (.int .i64 0) (.slice none 0 0) (.slice none 0 0) (.int .i64 0) (.slice none 0 0) (.int .u64 0) (.int .u64 0)).later ((Below.refl _ _).alloc (Nat.le_refl _) (.cells #[.slice none 0 0,.int .i64 0,.slice none 0 0,.slice none 0 0,.int .i64 0,.slice none 0 0,.int .u64 0,.int .u64 0] 192))
  have b2:=(below8 (g:=w.heap.size + 1 + 1) b1 (by omega) (.slice none 0 0) (.int .i64 0) (.slice none 0 0) (.slice none 0 0) (.int .i64 0) (.slice none 0 0) (.int .u64 0) (.int .u64 0)).alloc (by rw [size8];omega) (.cells #[.slice none 0 0,.int .i64 0,.slice none 0 0,.slice none 0 0,.int .i64 0,.slice none 0 0,.int .u64 0,.int .u64 0] 192)
  clear hc_w1 hf_w1
  go_wp2
  exact bodyPost_ret (res_ss3 rfl rfl u0) rfl ⟨hv0,none,0,rfl,OwnsSc.zero _ _,b2⟩
 ·have hss:=hss.symm
  subst hss
  have hh:=(hN.refused hk.h hy).1
  subst hh
  have fy:(y != (0:Int))=true:=by simpa using hy
  have HNW:=Lib.hid fun (w:World) (v:Hv) hz m hn=>znewH_any (w:=w) (v:=v) (h:=s.h) hz m hk.h.lens.1 hk.h.lens.2 hn n mk hmk bl s.h 0 y hN
  unfold FreshHa hpV hpv at HNW
  have HV:=Lib.hid fun (w:World) z m=>fview_ok (w:=w) (v:=v) (O:=O) (s:=s) co z m hk
  have HT:=Lib.hid fun (w:World) m=>ftwin_any (w:=w) (v:=v) (O:=O) (s:=s) co m hk hnil
  clear hk hs hN hy
  unfold scV at HV HT ⊢
  go_enter Tryz.func49,Tryz.ntmps49
  go_wp2_with fail
  go_at_call 134
  refine (HV.out _ (hz.later bX) (m.later bX)).mono ?_
  rintro e w1 ⟨rfl,hb_w1⟩
  obtain ⟨hc_w1,hf_w1⟩:=bcell hb_w1;have hz_w1_w_0:w.heap.size < w1.heap.size:=lY hb_w1.size;have hz_w1_w_1:w.heap.size + 1 < w1.heap.size:=lY hb_w1.size;have hz_w1_w_2:w.heap.size + 2 < w1.heap.size:=lY hb_w1.size;have hs_w1:=hb_w1.size;(try simp only [zZ] at hs_w1)
  have b1:Below w.heap.size w w1:=bX
  have t0:=(E8.new ((w.alloc (.cells #[.slice v.A s.h.ws.length v.ca,.int .i64 s.h.n,.slice v.U s.h.us.length v.cu,.slice v.V s.h.l.length v.cv,.int .i64 s.n,.slice O s.os.length co,.int .u64 (s.fa:Nat),.int .u64 (s.go:Nat)] 79)).alloc (.cells #[.int .i64 n,.int .u64 (mk:Nat)] 34)) (.slice none 0 0) (.int .i64 0) (.slice none 0 0) (.slice none 0 0) (.int .i64 0) (.slice none 0 0) (.int .u64 0) (.int .u64 0) 79).later hb_w1
  simp only [zA] at t0
  have t1:=E8.new w1 (.slice v.A s.h.ws.length v.ca) (.int .i64 s.h.n) (.slice v.U s.h.us.length v.cu) (.slice v.V s.h.l.length v.cv) (.int .i64 s.n) (.slice O s.os.length co) (.int .u64 (s.fa:Nat)) (.int .u64 (s.go:Nat)) 192
  have t0:=t0.later ((Below.refl _ _).alloc (Nat.le_refl _) (.cells #[.slice v.A s.h.ws.length v.ca,.int .i64 s.h.n,.slice v.U s.h.us.length v.cu,.slice v.V s.h.l.length v.cv,.int .i64 s.n,.slice O s.os.length co,.int .u64 (s.fa:Nat),.int .u64 (s.go:Nat)] 192))
  have p1:=((Two.new1 w (.cells #[.slice v.A s.h.ws.length v.ca,.int .i64 s.h.n,.slice v.U s.h.us.length v.cu,.slice v.V s.h.l.length v.cv,.int .i64 s.n,.slice O s.os.length co,.int .u64 (s.fa:Nat),.int .u64 (s.go:Nat)] 79) (.int .i64 n) (.int .u64 (mk:Nat)) 34).later ((Below.refl _ _).alloc (Nat.le_refl _) (.cells #[.slice none 0 0,.int .i64 0,.slice none 0 0,.slice none 0 0,.int .i64 0,.slice none 0 0,.int .u64 0,.int .u64 0] 79))).later hb_w1
  have p1:=p1.later ((Below.refl _ _).alloc (Nat.le_refl _) (.cells #[.slice v.A s.h.ws.length v.ca,.int .i64 s.h.n,.slice v.U s.h.us.length v.cu,.slice v.V s.h.l.length v.cv,.int .i64 s.n,.slice O s.os.length co,.int .u64 (s.fa:Nat),.int .u64 (s.go:Nat)] 192))
  have zt:=t0.lt
  clear hc_w1 hf_w1
  go_wp2_with fail
  go_at_call 135
  refine (HT.out _ ((m.later b1).later bX)).mono ?_
  rintro e w2 ⟨v2,O2,c2,rfl,o2,hb_w2⟩
  have t0:=t0.later hb_w2
  have t1:=t1.later hb_w2
  have s2:=hb_w2.size
  simp only [zA] at o2 s2 zt
  have b2:Below w.heap.size w w2:=bX
  have p1:=p1.later hb_w2
  obtain ⟨p0,p1_,pf⟩:=id p1
  have sw:=b1.size
  have t1':=t1.all (.slice v2.A s.h.ws.length v2.ca) (.int .i64 s.h.n) (.slice v2.U s.h.us.length v2.cu) (.slice v2.V s.h.l.length v2.cv) (.int .i64 s.n) (.slice O2 s.os.length c2) (.int .u64 (s.fa:Nat)) (.int .u64 (s.go:Nat))
  have t0':=t0.over (g:=w1.heap.size) (by omega) (.slice v2.A s.h.ws.length v2.ca) (.int .i64 s.h.n) (.slice v2.U s.h.us.length v2.cu) (.slice v2.V s.h.l.length v2.cv) (.int .i64 s.n) (.slice O2 s.os.length c2) (.int .u64 (s.fa:Nat)) (.int .u64 (s.go:Nat))
  have o2':=o2.over8 (g:=w1.heap.size) (by omega) (.slice v2.A s.h.ws.length v2.ca) (.int .i64 s.h.n) (.slice v2.U s.h.us.length v2.cu) (.slice v2.V s.h.l.length v2.cv) (.int .i64 s.n) (.slice O2 s.os.length c2) (.int .u64 (s.fa:Nat)) (.int .u64 (s.go:Nat))
  have b2':=below8 (g:=w1.heap.size) b2 (by omega) (.slice v2.A s.h.ws.length v2.ca) (.int .i64 s.h.n) (.slice v2.U s.h.us.length v2.cu) (.slice v2.V s.h.l.length v2.cv) (.int .i64 s.n) (.slice O2 s.os.length c2) (.int .u64 (s.fa:Nat)) (.int .u64 (s.go:Nat))
  obtain ⟨x0,x1,x2,x3,x4,x5,x6,x7,xf⟩:=id t1
  obtain ⟨y0,y1,y2,y3,y4,y5,y6,y7,yf⟩:=id t0
  have p1':=p1
  have p1':=p1'.off1 (p:=⟨w1.heap.size,0,none⟩) (by show w1.heap.size ≠ w.heap.size + 1;omega) (.slice v2.A s.h.ws.length v2.ca)
  have p1':=p1'.off1 (p:=⟨w1.heap.size,1,none⟩) (by show w1.heap.size ≠ w.heap.size + 1;omega) (.int .i64 s.h.n)
  have p1':=p1'.off1 (p:=⟨w1.heap.size,2,none⟩) (by show w1.heap.size ≠ w.heap.size + 1;omega) (.slice v2.U s.h.us.length v2.cu)
  have p1':=p1'.off1 (p:=⟨w1.heap.size,3,none⟩) (by show w1.heap.size ≠ w.heap.size + 1;omega) (.slice v2.V s.h.l.length v2.cv)
  have p1':=p1'.off1 (p:=⟨w1.heap.size,4,none⟩) (by show w1.heap.size ≠ w.heap.size + 1;omega) (.int .i64 s.n)
  have p1':=p1'.off1 (p:=⟨w1.heap.size,5,none⟩) (by show w1.heap.size ≠ w.heap.size + 1;omega) (.slice O2 s.os.length c2)
  have p1':=p1'.off1 (p:=⟨w1.heap.size,6,none⟩) (by show w1.heap.size ≠ w.heap.size + 1;omega) (.int .u64 (s.fa:Nat))
  have p1':=p1'.off1 (p:=⟨w1.heap.size,7,none⟩) (by show w1.heap.size ≠ w.heap.size + 1;omega) (.int .u64 (s.go:Nat))
  go_wp2_with fail
  generalize hW:((((((((w2.setCell ⟨w1.heap.size,0,none⟩ (.slice v2.A s.h.ws.length v2.ca)).setCell ⟨w1.heap.size,1,none⟩ (.int .i64 s.h.n)).setCell ⟨w1.heap.size,2,none⟩ (.slice v2.U s.h.us.length v2.cu)).setCell ⟨w1.heap.size,3,none⟩ (.slice v2.V s.h.l.length v2.cv)).setCell ⟨w1.heap.size,4,none⟩ (.int .i64 s.n)).setCell ⟨w1.heap.size,5,none⟩ (.slice O2 s.os.length c2)).setCell ⟨w1.heap.size,6,none⟩ (.int .u64 (s.fa:Nat))).setCell ⟨w1.heap.size,7,none⟩ (.int .u64 (s.go:Nat)))=W at *
  have sW:W.heap.size=w2.heap.size:=by rw [← hW];exact size8 _ _ _ _ _ _ _ _ _ _
  clear hW t0 t1 p1 p0 p1_ pf o2 b2 hb_w2 x0 x1 x2 x3 x4 x5 x6 x7 xf y0 y1 y2 y3 y4 y5 y6 y7 yf
  obtain ⟨x0,x1,x2,x3,x4,x5,x6,x7,xf⟩:=id t1'
  obtain ⟨p0,p1_,pf⟩:=id p1'
  have oN:=o2'.h.nil
  have oM:=o2'.h.hm
  go_wp2_with fail
  go_at_call 15
  refine (HNW.out _ _ (hz.later b2') oM oN).mono ?_
  rintro e w3 ⟨v3,rfl,o3,hb_w3⟩
  have s3:=hb_w3.size
  clear p0 p1_ pf p1' oN oM x0 x1 x2 x3 x4 x5 x6 x7 xf
  have t0':=(t0'.later hb_w3).later ((Below.refl _ _).alloc (Nat.le_refl _) (.cells #[.slice v3.A s.h.ws.length v3.ca,.int .i64 s.h.n,.slice v3.U s.h.us.length v3.cu,.slice v3.V s.h.l.length v3.cv] 31))
  have t1':=(t1'.later hb_w3).later ((Below.refl _ _).alloc (Nat.le_refl _) (.cells #[.slice v3.A s.h.ws.length v3.ca,.int .i64 s.h.n,.slice v3.U s.h.us.length v3.cu,.slice v3.V s.h.l.length v3.cv] 31))
  have o2':=(o2'.later hb_w3).later ((Below.refl _ _).alloc (Nat.le_refl _) (.cells #[.slice v3.A s.h.ws.length v3.ca,.int .i64 s.h.n,.slice v3.U s.h.us.length v3.cu,.slice v3.V s.h.l.length v3.cv] 31))
  have b2':=(b2'.trans (hb_w3.mono b2'.size)).alloc (by have:=b2'.size;omega) (.cells #[.slice v3.A s.h.ws.length v3.ca,.int .i64 s.h.n,.slice v3.U s.h.us.length v3.cu,.slice v3.V s.h.l.length v3.cv] 31)
  have q4:=B4.new w3 (.slice v3.A s.h.ws.length v3.ca) (.int .i64 s.h.n) (.slice v3.U s.h.us.length v3.cu) (.slice v3.V s.h.l.length v3.cv) 31
  obtain ⟨x0,x1,x2,x3,x4,x5,x6,x7,xf⟩:=id t1'
  obtain ⟨y0,y1,y2,y3,y4,y5,y6,y7,yf⟩:=id t0'
  go_wp2
  exact bodyPost_ret (res_ss3 rfl rfl (t0'.all (.slice v2.A s.h.ws.length v2.ca) (.int .i64 s.h.n) (.slice v2.U s.h.us.length v2.cu) (.slice v2.V s.h.l.length v2.cv) (.int .i64 s.n) (.slice O2 s.os.length c2) (.int .u64 (s.fa:Nat)) (.int .u64 (s.go:Nat)))) rfl ⟨v2,O2,c2,rfl,(o2'.over8 (g:=w.heap.size + 1 + 1) (by omega) (.slice v2.A s.h.ws.length v2.ca) (.int .i64 s.h.n) (.slice v2.U s.h.us.length v2.cu) (.slice v2.V s.h.l.length v2.cv) (.int .i64 s.n) (.slice O2 s.os.length c2) (.int .u64 (s.fa:Nat)) (.int .u64 (s.go:Nat))).mono (by omega),below8 (g:=w.heap.size + 1 + 1) b2' (by omega) (.slice v2.A s.h.ws.length v2.ca) (.int .i64 s.h.n) (.slice v2.U s.h.us.length v2.cu) (.slice v2.V s.h.l.length v2.cv) (.int .i64 s.n) (.slice O2 s.os.length c2) (.int .u64 (s.fa:Nat)) (.int .u64 (s.go:Nat))⟩
 ·have HNW:=Lib.hid fun (w:World) (v:Hv) hz m hn=>znewH_any (w:=w) (v:=v) (h:=s.h) hz m hk.h.lens.1 hk.h.lens.2 hn n mk hmk bl h' a 0 hN
  unfold FreshHa hpV hpv at HNW
  have HV:=Lib.hid fun (w:World) z m=>fview_ok (w:=w) (v:=v) (O:=O) (s:=s) co z m hk
  have HT:=Lib.hid fun (w:World) m=>ftwin_any (w:=w) (v:=v) (O:=O) (s:=s) co m hk hnil
  have hk':=(hN.made).2.1
  have hnn:=hN.n hk.h
  have HRC:=Lib.hid fun (w:World) (b B:Nat) (v:Hv) (O:Option Addr) (co:Nat) hx m hb hB=>frec_any (w:=w) (b:=b) (B:=B) (v:=v) (O:=O) (co:=co) (s:=⟨h',s.n,s.os,s.fa,s.go⟩) hx m hb hB hk.o (by show Right s.n h'.us;rw [hk.n,← hnn];exact hk'.framed.pages) (by show s.n=h'.n;rw [hnn];exact hk.n) hfa s' he
  simp only at HRC
  clear hk hs hN he hk' hnn
  unfold scV at HV HT ⊢
  go_enter Tryz.func49,Tryz.ntmps49
  go_wp2_with fail
  go_at_call 134
  refine (HV.out _ (hz.later bX) (m.later bX)).mono ?_
  rintro e w1 ⟨rfl,hb_w1⟩
  obtain ⟨hc_w1,hf_w1⟩:=bcell hb_w1;have hz_w1_w_0:w.heap.size < w1.heap.size:=lY hb_w1.size;have hz_w1_w_1:w.heap.size + 1 < w1.heap.size:=lY hb_w1.size;have hz_w1_w_2:w.heap.size + 2 < w1.heap.size:=lY hb_w1.size;have hs_w1:=hb_w1.size;(try simp only [zZ] at hs_w1)
  have b1:Below w.heap.size w w1:=bX
  have t0:=(E8.new ((w.alloc (.cells #[.slice v.A s.h.ws.length v.ca,.int .i64 s.h.n,.slice v.U s.h.us.length v.cu,.slice v.V s.h.l.length v.cv,.int .i64 s.n,.slice O s.os.length co,.int .u64 (s.fa:Nat),.int .u64 (s.go:Nat)] 79)).alloc (.cells #[.int .i64 n,.int .u64 (mk:Nat)] 34)) (.slice none 0 0) (.int .i64 0) (.slice none 0 0) (.slice none 0 0) (.int .i64 0) (.slice none 0 0) (.int .u64 0) (.int .u64 0) 79).later hb_w1
  simp only [zA] at t0
  have t1:=E8.new w1 (.slice v.A s.h.ws.length v.ca) (.int .i64 s.h.n) (.slice v.U s.h.us.length v.cu) (.slice v.V s.h.l.length v.cv) (.int .i64 s.n) (.slice O s.os.length co) (.int .u64 (s.fa:Nat)) (.int .u64 (s.go:Nat)) 192
  have t0:=t0.later ((Below.refl _ _).alloc (Nat.le_refl _) (.cells #[.slice v.A s.h.ws.length v.ca,.int .i64 s.h.n,.slice v.U s.h.us.length v.cu,.slice v.V s.h.l.length v.cv,.int .i64 s.n,.slice O s.os.length co,.int .u64 (s.fa:Nat),.int .u64 (s.go:Nat)] 192))
  have p1:=((Two.new1 w (.cells #[.slice v.A s.h.ws.length v.ca,.int .i64 s.h.n,.slice v.U s.h.us.length v.cu,.slice v.V s.h.l.length v.cv,.int .i64 s.n,.slice O s.os.length co,.int .u64 (s.fa:Nat),.int .u64 (s.go:Nat)] 79) (.int .i64 n) (.int .u64 (mk:Nat)) 34).later ((Below.refl _ _).alloc (Nat.le_refl _) (.cells #[.slice none 0 0,.int .i64 0,.slice none 0 0,.slice none 0 0,.int .i64 0,.slice none 0 0,.int .u64 0,.int .u64 0] 79))).later hb_w1
  have p1:=p1.later ((Below.refl _ _).alloc (Nat.le_refl _) (.cells #[.slice v.A s.h.ws.length v.ca,.int .i64 s.h.n,.slice v.U s.h.us.length v.cu,.slice v.V s.h.l.length v.cv,.int .i64 s.n,.slice O s.os.length co,.int .u64 (s.fa:Nat),.int .u64 (s.go:Nat)] 192))
  have zt:=t0.lt
  clear hc_w1 hf_w1
  go_wp2_with fail
  go_at_call 135
  refine (HT.out _ ((m.later b1).later bX)).mono ?_
  rintro e w2 ⟨v2,O2,c2,rfl,o2,hb_w2⟩
  have t0:=t0.later hb_w2
  have t1:=t1.later hb_w2
  have s2:=hb_w2.size
  simp only [zA] at o2 s2 zt
  have b2:Below w.heap.size w w2:=bX
  have p1:=p1.later hb_w2
  obtain ⟨p0,p1_,pf⟩:=id p1
  have sw:=b1.size
  have t1':=t1.all (.slice v2.A s.h.ws.length v2.ca) (.int .i64 s.h.n) (.slice v2.U s.h.us.length v2.cu) (.slice v2.V s.h.l.length v2.cv) (.int .i64 s.n) (.slice O2 s.os.length c2) (.int .u64 (s.fa:Nat)) (.int .u64 (s.go:Nat))
  have t0':=t0.over (g:=w1.heap.size) (by omega) (.slice v2.A s.h.ws.length v2.ca) (.int .i64 s.h.n) (.slice v2.U s.h.us.length v2.cu) (.slice v2.V s.h.l.length v2.cv) (.int .i64 s.n) (.slice O2 s.os.length c2) (.int .u64 (s.fa:Nat)) (.int .u64 (s.go:Nat))
  have o2':=o2.over8 (g:=w1.heap.size) (by omega) (.slice v2.A s.h.ws.length v2.ca) (.int .i64 s.h.n) (.slice v2.U s.h.us.length v2.cu) (.slice v2.V s.h.l.length v2.cv) (.int .i64 s.n) (.slice O2 s.os.length c2) (.int .u64 (s.fa:Nat)) (.int .u64 (s.go:Nat))
  have b2':=below8 (g:=w1.heap.size) b2 (by omega) (.slice v2.A s.h.ws.length v2.ca) (.int .i64 s.h.n) (.slice v2.U s.h.us.length v2.cu) (.slice v2.V s.h.l.length v2.cv) (.int .i64 s.n) (.slice O2 s.os.length c2) (.int .u64 (s.fa:Nat)) (.int .u64 (s.go:Nat))
  obtain ⟨x0,x1,x2,x3,x4,x5,x6,x7,xf⟩:=id t1
  obtain ⟨y0,y1,y2,y3,y4,y5,y6,y7,yf⟩:=id t0
  have p1':=p1
  have p1':=p1'.off1 (p:=⟨w1.heap.size,0,none⟩) (by show w1.heap.size ≠ w.heap.size + 1;omega) (.slice v2.A s.h.ws.length v2.ca)
  have p1':=p1'.off1 (p:=⟨w1.heap.size,1,none⟩) (by show w1.heap.size ≠ w.heap.size + 1;omega) (.int .i64 s.h.n)
  have p1':=p1'.off1 (p:=⟨w1.heap.size,2,none⟩) (by show w1.heap.size ≠ w.heap.size + 1;omega) (.slice v2.U s.h.us.length v2.cu)
  have p1':=p1'.off1 (p:=⟨w1.heap.size,3,none⟩) (by show w1.heap.size ≠ w.heap.size + 1;omega) (.slice v2.V s.h.l.length v2.cv)
  have p1':=p1'.off1 (p:=⟨w1.heap.size,4,none⟩) (by show w1.heap.size ≠ w.heap.size + 1;omega) (.int .i64 s.n)
  have p1':=p1'.off1 (p:=⟨w1.heap.size,5,none⟩) (by show w1.heap.size ≠ w.heap.size + 1;omega) (.slice O2 s.os.length c2)
  have p1':=p1'.off1 (p:=⟨w1.heap.size,6,none⟩) (by show w1.heap.size ≠ w.heap.size + 1;omega) (.int .u64 (s.fa:Nat))
  have p1':=p1'.off1 (p:=⟨w1.heap.size,7,none⟩) (by show w1.heap.size ≠ w.heap.size + 1;omega) (.int .u64 (s.go:Nat))
  go_wp2_with fail
  generalize hW:((((((((w2.setCell ⟨w1.heap.size,0,none⟩ (.slice v2.A s.h.ws.length v2.ca)).setCell ⟨w1.heap.size,1,none⟩ (.int .i64 s.h.n)).setCell ⟨w1.heap.size,2,none⟩ (.slice v2.U s.h.us.length v2.cu)).setCell ⟨w1.heap.size,3,none⟩ (.slice v2.V s.h.l.length v2.cv)).setCell ⟨w1.heap.size,4,none⟩ (.int .i64 s.n)).setCell ⟨w1.heap.size,5,none⟩ (.slice O2 s.os.length c2)).setCell ⟨w1.heap.size,6,none⟩ (.int .u64 (s.fa:Nat))).setCell ⟨w1.heap.size,7,none⟩ (.int .u64 (s.go:Nat)))=W at *
  have sW:W.heap.size=w2.heap.size:=by rw [← hW];exact size8 _ _ _ _ _ _ _ _ _ _
  clear hW t0 t1 p1 p0 p1_ pf o2 b2 hb_w2 x0 x1 x2 x3 x4 x5 x6 x7 xf y0 y1 y2 y3 y4 y5 y6 y7 yf
  obtain ⟨x0,x1,x2,x3,x4,x5,x6,x7,xf⟩:=id t1'
  obtain ⟨p0,p1_,pf⟩:=id p1'
  have oN:=o2'.h.nil
  have oM:=o2'.h.hm
  go_wp2_with fail
  go_at_call 15
  refine (HNW.out _ _ (hz.later b2') oM oN).mono ?_
  rintro e w3 ⟨v3,rfl,o3,hb_w3⟩
  have s3:=hb_w3.size
  clear p0 p1_ pf p1' oN oM x0 x1 x2 x3 x4 x5 x6 x7 xf
  have t0':=(t0'.later hb_w3).later ((Below.refl _ _).alloc (Nat.le_refl _) (.cells #[.slice v3.A h'.ws.length v3.ca,.int .i64 h'.n,.slice v3.U h'.us.length v3.cu,.slice v3.V h'.l.length v3.cv] 31))
  have t1':=(t1'.later hb_w3).later ((Below.refl _ _).alloc (Nat.le_refl _) (.cells #[.slice v3.A h'.ws.length v3.ca,.int .i64 h'.n,.slice v3.U h'.us.length v3.cu,.slice v3.V h'.l.length v3.cv] 31))
  have o2':=(o2'.later hb_w3).later ((Below.refl _ _).alloc (Nat.le_refl _) (.cells #[.slice v3.A h'.ws.length v3.ca,.int .i64 h'.n,.slice v3.U h'.us.length v3.cu,.slice v3.V h'.l.length v3.cv] 31))
  have b2':=(b2'.trans (hb_w3.mono b2'.size)).alloc (by have:=b2'.size;omega) (.cells #[.slice v3.A h'.ws.length v3.ca,.int .i64 h'.n,.slice v3.U h'.us.length v3.cu,.slice v3.V h'.l.length v3.cv] 31)
  have q4:=B4.new w3 (.slice v3.A h'.ws.length v3.ca) (.int .i64 h'.n) (.slice v3.U h'.us.length v3.cu) (.slice v3.V h'.l.length v3.cv) 31
  obtain ⟨x0,x1,x2,x3,x4,x5,x6,x7,xf⟩:=id t1'
  obtain ⟨q0,q1,q2,q3,_,_,_,_⟩:=id q4
  have zq:=q4.lt
  have oo:=o2'.o
  have o4:=o3.later ((Below.refl _ _).alloc (Nat.le_refl _) (.cells #[.slice v3.A h'.ws.length v3.ca,.int .i64 h'.n,.slice v3.U h'.us.length v3.cu,.slice v3.V h'.l.length v3.cv] 31))
  have t2:=(((t1'.set0 (.slice v3.A h'.ws.length v3.ca)).set1 (.int .i64 h'.n)).set2 (.slice v3.U h'.us.length v3.cu)).set3 (.slice v3.V h'.l.length v3.cv)
  have t0':=t0'.far (p:=⟨w1.heap.size,0,none⟩) (by show w1.heap.size ≠ w.heap.size + 1 + 1;omega) (.slice v3.A h'.ws.length v3.ca)
  have t0':=t0'.far (p:=⟨w1.heap.size,1,none⟩) (by show w1.heap.size ≠ w.heap.size + 1 + 1;omega) (.int .i64 h'.n)
  have t0':=t0'.far (p:=⟨w1.heap.size,2,none⟩) (by show w1.heap.size ≠ w.heap.size + 1 + 1;omega) (.slice v3.U h'.us.length v3.cu)
  have t0':=t0'.far (p:=⟨w1.heap.size,3,none⟩) (by show w1.heap.size ≠ w.heap.size + 1 + 1;omega) (.slice v3.V h'.l.length v3.cv)
  have o4:=o4.far (p:=⟨w1.heap.size,0,none⟩) (by show w1.heap.size < W.heap.size;omega) (.slice v3.A h'.ws.length v3.ca)
  have o4:=o4.far (p:=⟨w1.heap.size,1,none⟩) (by show w1.heap.size < W.heap.size;omega) (.int .i64 h'.n)
  have o4:=o4.far (p:=⟨w1.heap.size,2,none⟩) (by show w1.heap.size < W.heap.size;omega) (.slice v3.U h'.us.length v3.cu)
  have o4:=o4.far (p:=⟨w1.heap.size,3,none⟩) (by show w1.heap.size < W.heap.size;omega) (.slice v3.V h'.l.length v3.cv)
  have oo:=oo.far (p:=⟨w1.heap.size,0,none⟩) (.inl (by show w1.heap.size < w1.heap.size + 1;omega)) (.slice v3.A h'.ws.length v3.ca)
  have oo:=oo.far (p:=⟨w1.heap.size,1,none⟩) (.inl (by show w1.heap.size < w1.heap.size + 1;omega)) (.int .i64 h'.n)
  have oo:=oo.far (p:=⟨w1.heap.size,2,none⟩) (.inl (by show w1.heap.size < w1.heap.size + 1;omega)) (.slice v3.U h'.us.length v3.cu)
  have oo:=oo.far (p:=⟨w1.heap.size,3,none⟩) (.inl (by show w1.heap.size < w1.heap.size + 1;omega)) (.slice v3.V h'.l.length v3.cv)
  have b2':=b2'.setCell (p:=⟨w1.heap.size,0,none⟩) (by show w.heap.size ≤ w1.heap.size;omega) (.slice v3.A h'.ws.length v3.ca)
  have b2':=b2'.setCell (p:=⟨w1.heap.size,1,none⟩) (by show w.heap.size ≤ w1.heap.size;omega) (.int .i64 h'.n)
  have b2':=b2'.setCell (p:=⟨w1.heap.size,2,none⟩) (by show w.heap.size ≤ w1.heap.size;omega) (.slice v3.U h'.us.length v3.cu)
  have b2':=b2'.setCell (p:=⟨w1.heap.size,3,none⟩) (by show w.heap.size ≤ w1.heap.size;omega) (.slice v3.V h'.l.length v3.cv)
  go_wp2_with fail
  generalize hW4:((((w3.alloc (.cells #[.slice v3.A h'.ws.length v3.ca,.int .i64 h'.n,.slice v3.U h'.us.length v3.cu,.slice v3.V h'.l.length v3.cv] 31)).setCell ⟨w1.heap.size,0,none⟩ (.slice v3.A h'.ws.length v3.ca)).setCell ⟨w1.heap.size,1,none⟩ (.int .i64 h'.n)).setCell ⟨w1.heap.size,2,none⟩ (.slice v3.U h'.us.length v3.cu)).setCell ⟨w1.heap.size,3,none⟩ (.slice v3.V h'.l.length v3.cv)=W4 at *
  have sW4:W4.heap.size=w3.heap.size + 1:=by rw [← hW4];simp only [zS,zA]
  clear hW4 q4 q0 q1 q2 q3 x0 x1 x2 x3 x4 x5 x6 x7 xf
  go_at_call 136
  refine (HRC.out _ _ (w1.heap.size + 1) _ _ _ t2 ⟨o4.mono (by omega),oo⟩ (by omega) (by omega)).mono ?_
  rintro e w5 ⟨O5,c5,rfl,t5,o5,hg5⟩
  have s5:=hg5.size
  have t6:=t0'.grown hg5 (by intro e;injection e with e;omega)
  have b6:=b2'.grown hg5 (by omega) (fun k hk=>by injection hk with hk;omega)
  obtain ⟨x0,x1,x2,x3,x4,x5,x6,x7,xf⟩:=id t5
  obtain ⟨y0,y1,y2,y3,y4,y5,y6,y7,yf⟩:=id t6
  go_wp2
  exact bodyPost_ret (res_ss3 rfl rfl (t6.all (.slice v3.A s'.h.ws.length v3.ca) (.int .i64 s'.h.n) (.slice v3.U s'.h.us.length v3.cu) (.slice v3.V s'.h.l.length v3.cv) (.int .i64 s'.n) (.slice O5 s'.os.length c5) (.int .u64 (s'.fa:Nat)) (.int .u64 (s'.go:Nat)))) rfl ⟨v3,O5,c5,rfl,(o5.over8 (g:=w.heap.size + 1 + 1) (by omega) (.slice v3.A s'.h.ws.length v3.ca) (.int .i64 s'.h.n) (.slice v3.U s'.h.us.length v3.cu) (.slice v3.V s'.h.l.length v3.cv) (.int .i64 s'.n) (.slice O5 s'.os.length c5) (.int .u64 (s'.fa:Nat)) (.int .u64 (s'.go:Nat))).mono (by omega),below8 (g:=w.heap.size + 1 + 1) b6 (by omega) (.slice v3.A s'.h.ws.length v3.ca) (.int .i64 s'.h.n) (.slice v3.U s'.h.us.length v3.cu) (.slice v3.V s'.h.l.length v3.cv) (.int .i64 s'.n) (.slice O5 s'.os.length c5) (.int .u64 (s'.fa:Nat)) (.int .u64 (s'.go:Nat))⟩
end
set_option maxHeartbeats 8000000 in
theorem flives_gen {h0 h1:Hp} {s2 s3 s4 s5 s6:Sc} {a1 a4:Nat} (k1:OkH h1) (k0:OkH h0) (e1:MakE 4 h0 0) (e2:NewE h0 0 0 false h1 a1 0) (e3:MkS h1 s2 0) (e4:RelE s2 9 s3 2 0) (e5:TheE s3 2 0 0) (e6:NwE s3 20 0 false s4 a4 0) (e7:RunE s3 [2] 0) (e8:KeeE s3 0 s5 0 0) (e9:RelE s3 (-1) s6 0 1) (k2:OkS s2) (k3:OkS s3) (k4:OkS s4) (f3:s3.fa < W64) (f4:s4.fa=2)
  (w:World) (hz:Sizes w):Calls Tryz.prog 57 #[] w fun e w'=>e=.returned (.bool true)∧Below w.heap.size w w':=by
 have H1:Hid (∀ (W:World),Calls Tryz.prog 17 #[.int .i64 4] W fun e W'=>∃ v',e=.returned (.tuple #[hpV v' h0,.int .i64 0])∧OwnsH W' W.heap.size v' h0∧Below W.heap.size W W'):=Lib.hid fun W=>zmakeH_any W 4 h0 0 e1
 have H2:=Lib.hid fun (W:World) (v:Hv) z m n=>znewH_any (w:=W) (v:=v) (h:=h0) z m k0.lens.1 k0.lens.2 n 0 0 (by unfold W64;omega) false h1 a1 0 e2
 have H3:=Lib.hid fun (W:World) (v:Hv) z m n=>fmake_any (w:=W) (v:=v) (h:=h1) z m k1.short n s2 0 e3
 have H4:=Lib.hid fun (W:World) (v:Hv) (O:Option Addr) (c:Nat) z m n=>frelease_any (w:=W) (v:=v) (O:=O) (s:=s2) c z m k2.h.short n 9 (by omega) s3 2 0 e4
 have H5:=Lib.hid fun (W:World) (v:Hv) (O:Option Addr) (c:Nat) z m n=>fthere_any (w:=W) (v:=v) (O:=O) (s:=s3) c z m k3.h.short n 2 0 0 e5
 have H6:=Lib.hid fun (W:World) (v:Hv) (O:Option Addr) (c:Nat) z m n=>fnew_any (w:=W) (v:=v) (O:=O) (s:=s3) c z m k3.h.short n f3 20 0 (by unfold W64;omega) false s4 a4 0 e6
 have H7:=Lib.hid fun (W:World) (v:Hv) (O:Option Addr) (c:Nat) z m=>frunsX_any (w:=W) (v:=v) (O:=O) (s:=s3) c z m k3.h.short [2] 0 e7
 have H8:=Lib.hid fun (W:World) (v:Hv) (O:Option Addr) (c:Nat) z m n=>fkeep_any (w:=W) (v:=v) (O:=O) (s:=s3) c z m k3.h.short n 0 (by omega) s5 0 0 e8
 have H9:=Lib.hid fun (W:World) (v:Hv) (O:Option Addr) (c:Nat) z m n=>frelease_any (w:=W) (v:=v) (O:=O) (s:=s3) c z m k3.h.short n (-1) (by omega) s6 0 1 e9
 have H10:=Lib.hid fun (W:World) (v:Hv) (O:Option Addr) (c:Nat) z m=>fcheck_any (w:=W) (v:=v) (O:=O) (s:=s4) c z m k4.h.short 0 (.inl ⟨k4,rfl⟩)
 have HF4:=Lib.hid f4
 clear e1 e2 e3 e4 e5 e6 e7 e8 e9 k0 k1 k2 k3 k4 f3 f4
 unfold FreshHa at H2
 unfold FreshSi at H4 H8 H9
 unfold FreshSa at H6
 unfold hpV hpv at H1 H2 H3
 unfold scV at H3 H4 H5 H6 H7 H8 H9 H10
 skip
 go_enter Tryz.func57,Tryz.ntmps57
 go_wp2_with fail
 go_at_call 17
 refine (H1.out _).mono ?_
 rintro e w1 ⟨v1,rfl,o1,hb_w1⟩
 obtain ⟨hc_w1,hf_w1⟩:=bcell hb_w1;have hs_w1:=hb_w1.size;(try simp only [zZ] at hs_w1)
 have s1:=hb_w1.size
 have m1:=WB.new o1 s1 31
 have B1:Below w.heap.size w (w1.alloc (.cells #[.slice v1.A h0.ws.length v1.ca,.int .i64 h0.n,.slice v1.U h0.us.length v1.cu,.slice v1.V h0.l.length v1.cv] 31)):=hb_w1.alloc s1 _
 obtain ⟨c0,c1,c2,c3,f0,f1,f2,f3⟩:=id m1.box
 clear hc_w1 hf_w1 o1
 go_wp2_with fail
 go_at_call 15
 refine (H2.out _ _ (hz.later (by exact B1)) (by exact m1.hm) m1.owns.nil).mono ?_
 rintro e w2 ⟨v2,rfl,o2,hb_w2⟩
 clear c0 c1 c2 c3 f0 f1 f2 f3
 have x2:=m1.box.later hb_w2
 have l1:=m1.lt
 have q2:=B1.size
 have m2:=WB.put x2 m1.le o2 l1 q2
 have B2:=below_put B1 hb_w2 q2 m1.le (.slice v2.A h1.ws.length v2.ca) (.int .i64 h1.n) (.slice v2.U h1.us.length v2.cu) (.slice v2.V h1.l.length v2.cv)
 obtain ⟨c0,c1,c2,c3,f0,f1,f2,f3⟩:=id x2
 clear m1 B1 x2 o2
 go_wp2_with fail
 generalize (((w2.setCell ⟨w1.heap.size,0,none⟩ (.slice v2.A h1.ws.length v2.ca)).setCell ⟨w1.heap.size,1,none⟩ (.int .i64 h1.n)).setCell ⟨w1.heap.size,2,none⟩ (.slice v2.U h1.us.length v2.cu)).setCell ⟨w1.heap.size,3,none⟩ (.slice v2.V h1.l.length v2.cv)=W2 at *
 clear c0 c1 c2 c3 f0 f1 f2 f3
 obtain ⟨c0,c1,c2,c3,f0,f1,f2,f3⟩:=id m2.box
 go_at_call 63
 refine (H3.out _ _ (hz.later (by exact B2)) (by exact m2.hm) m2.owns.nil).mono ?_
 rintro e w3 ⟨v3,O3,k3,rfl,o3,hb_w3⟩
 clear c0 c1 c2 c3 f0 f1 f2 f3
 have b_w3:Below w.heap.size w w3:=B2.trans (hb_w3.mono B2.size)
 have a3:Below w3.heap.size w3 (w3.alloc (.cells #[.slice v3.A s2.h.ws.length v3.ca,.int .i64 s2.h.n,.slice v3.U s2.h.us.length v3.cu,.slice v3.V s2.h.l.length v3.cv,.int .i64 s2.n,.slice O3 s2.os.length k3,.int .u64 (s2.fa:Nat),.int .u64 (s2.go:Nat)] 79)):=Below.alloc (Below.refl _ _) (Nat.le_refl _) _
 have b3:=b_w3.trans (a3.mono b_w3.size)
 have X3:=E8.new w3 (.slice v3.A s2.h.ws.length v3.ca) (.int .i64 s2.h.n) (.slice v3.U s2.h.us.length v3.cu) (.slice v3.V s2.h.l.length v3.cv) (.int .i64 s2.n) (.slice O3 s2.os.length k3) (.int .u64 (s2.fa:Nat)) (.int .u64 (s2.go:Nat)) 79
 have M3:=o3.sm.later a3
 have n3:=o3.h.nil
 have z3:w3.heap.size < (w3.alloc (.cells #[.slice v3.A s2.h.ws.length v3.ca,.int .i64 s2.h.n,.slice v3.U s2.h.us.length v3.cu,.slice v3.V s2.h.l.length v3.cv,.int .i64 s2.n,.slice O3 s2.os.length k3,.int .u64 (s2.fa:Nat),.int .u64 (s2.go:Nat)] 79)).heap.size:=X3.lt
 have g3:=b_w3.size
 clear m2 B2 o3 hb_w3 b_w3
 obtain ⟨x0,x1,x2,x3,x4,x5,x6,x7,xf⟩:=id X3
 go_wp2_with fail
 go_at_call 53
 refine (H4.out _ _ _ _ (hz.later (by exact b3)) (by exact M3) n3).mono ?_
 rintro e w4 ⟨v4,O4,k4,rfl,o4,hb_w4⟩
 have X4:=X3.later hb_w4
 have b4:=b3.trans (hb_w4.mono b3.size)
 have n4:=o4.h.nil
 have X5:=X4.all (.slice v4.A s3.h.ws.length v4.ca) (.int .i64 s3.h.n) (.slice v4.U s3.h.us.length v4.cu) (.slice v4.V s3.h.l.length v4.cv) (.int .i64 s3.n) (.slice O4 s3.os.length k4) (.int .u64 (s3.fa:Nat)) (.int .u64 (s3.go:Nat))
 have M5:=(o4.over8 (g:=w3.heap.size) z3 (.slice v4.A s3.h.ws.length v4.ca) (.int .i64 s3.h.n) (.slice v4.U s3.h.us.length v4.cu) (.slice v4.V s3.h.l.length v4.cv) (.int .i64 s3.n) (.slice O4 s3.os.length k4) (.int .u64 (s3.fa:Nat)) (.int .u64 (s3.go:Nat))).sm
 have b5:=below8 (g:=w3.heap.size) b4 g3 (.slice v4.A s3.h.ws.length v4.ca) (.int .i64 s3.h.n) (.slice v4.U s3.h.us.length v4.cu) (.slice v4.V s3.h.l.length v4.cv) (.int .i64 s3.n) (.slice O4 s3.os.length k4) (.int .u64 (s3.fa:Nat)) (.int .u64 (s3.go:Nat))
 clear X3 M3 n3 b3 o4 a3 x0 x1 x2 x3 x4 x5 x6 x7 xf
 obtain ⟨x0,x1,x2,x3,x4,x5,x6,x7,xf⟩:=id X4
 go_wp2_with fail
 generalize ((((((((w4.setCell ⟨w3.heap.size,0,none⟩ (.slice v4.A s3.h.ws.length v4.ca)).setCell ⟨w3.heap.size,1,none⟩ (.int .i64 s3.h.n)).setCell ⟨w3.heap.size,2,none⟩ (.slice v4.U s3.h.us.length v4.cu)).setCell ⟨w3.heap.size,3,none⟩ (.slice v4.V s3.h.l.length v4.cv)).setCell ⟨w3.heap.size,4,none⟩ (.int .i64 s3.n)).setCell ⟨w3.heap.size,5,none⟩ (.slice O4 s3.os.length k4)).setCell ⟨w3.heap.size,6,none⟩ (.int .u64 (s3.fa:Nat))).setCell ⟨w3.heap.size,7,none⟩ (.int .u64 (s3.go:Nat)))=W5 at *
 clear X4 b4 hb_w4 z3 x0 x1 x2 x3 x4 x5 x6 x7 xf
 have s5':=b5.size
 have b_5x:=b5
 clear b5
 obtain ⟨X5_0,X5_1,X5_2,X5_3,X5_4,X5_5,X5_6,X5_7,X5_f⟩:=id X5
 go_wp2_with fail
 go_at_call 59
 refine (H5.out _ _ _ _ (hz.later (by exact b_5x)) (by exact M5) n4).mono ?_
 rintro e w6 ⟨rfl,hb_w6⟩
 clear X5_0 X5_1 X5_2 X5_3 X5_4 X5_5 X5_6 X5_7 X5_f
 have b_w6:Below w.heap.size w w6:=b_5x.trans (hb_w6.mono b_5x.size)
 replace X5:=X5.later hb_w6
 replace M5:=M5.later hb_w6
 obtain ⟨X5_0,X5_1,X5_2,X5_3,X5_4,X5_5,X5_6,X5_7,X5_f⟩:=id X5
 go_wp2_with fail
 go_at_call 49
 refine (H6.out _ _ _ _ (hz.later (by exact b_w6)) (by exact M5) n4).mono ?_
 rintro e w7 ⟨v7,O7,k7,rfl,o7,hb_w7⟩
 have M7:=o7.sm
 clear X5_0 X5_1 X5_2 X5_3 X5_4 X5_5 X5_6 X5_7 X5_f
 have b_w7:Below w.heap.size w w7:=b_w6.trans (hb_w7.mono b_w6.size)
 replace X5:=X5.later hb_w7
 have p_X5:=X5
 have z_X5_w7:=X5.lt
 replace M5:=M5.later hb_w7
 have a_w7_0:Below w7.heap.size w7 (w7.alloc (.cells #[.slice v7.A s4.h.ws.length v7.ca,.int .i64 s4.h.n,.slice v7.U s4.h.us.length v7.cu,.slice v7.V s4.h.l.length v7.cv,.int .i64 s4.n,.slice O7 s4.os.length k7,.int .u64 (s4.fa:Nat),.int .u64 (s4.go:Nat)] 79)):=Below.alloc (Below.refl _ _) (Nat.le_refl _) _
 replace X5:=X5.later a_w7_0
 replace M5:=M5.later a_w7_0
 have Y7:=E8.new w7 (.slice v7.A s4.h.ws.length v7.ca) (.int .i64 s4.h.n) (.slice v7.U s4.h.us.length v7.cu) (.slice v7.V s4.h.l.length v7.cv) (.int .i64 s4.n) (.slice O7 s4.os.length k7) (.int .u64 (s4.fa:Nat)) (.int .u64 (s4.go:Nat)) 79
 have b_w7_0:Below w.heap.size w (w7.alloc (.cells #[.slice v7.A s4.h.ws.length v7.ca,.int .i64 s4.h.n,.slice v7.U s4.h.us.length v7.cu,.slice v7.V s4.h.l.length v7.cv,.int .i64 s4.n,.slice O7 s4.os.length k7,.int .u64 (s4.fa:Nat),.int .u64 (s4.go:Nat)] 79)):=b_w7.trans (a_w7_0.mono b_w7.size)
 have M7:=M7.later a_w7_0
 obtain ⟨X5_0,X5_1,X5_2,X5_3,X5_4,X5_5,X5_6,X5_7,X5_f⟩:=id p_X5
 go_wp2_with fail
 go_at_call 61
 refine (H7.out _ _ _ _ (hz.later (by exact b_w7_0)) (by exact M5)).mono ?_
 rintro e w8 ⟨A8,c8,rfl,R8,hb_w8⟩
 clear p_X5
 clear X5_0 X5_1 X5_2 X5_3 X5_4 X5_5 X5_6 X5_7 X5_f
 have b_w8:Below w.heap.size w w8:=b_w7_0.trans (hb_w8.mono b_w7_0.size)
 replace X5:=X5.later hb_w8
 replace M5:=M5.later hb_w8
 replace Y7:=Y7.later hb_w8
 replace M7:=M7.later hb_w8
 obtain ⟨X5_0,X5_1,X5_2,X5_3,X5_4,X5_5,X5_6,X5_7,X5_f⟩:=id X5
 go_wp2_with fail
 go_at_call 55
 refine (H8.out _ _ _ _ (hz.later (by exact b_w8)) (by exact M5) n4).mono ?_
 rintro e w9 ⟨v9,O9,k9,rfl,o9,hb_w9⟩
 clear X5_0 X5_1 X5_2 X5_3 X5_4 X5_5 X5_6 X5_7 X5_f
 have b_w9:Below w.heap.size w w9:=b_w8.trans (hb_w9.mono b_w8.size)
 replace X5:=X5.later hb_w9
 have p_X5:=X5
 have z_X5_w9:=X5.lt
 replace M5:=M5.later hb_w9
 replace Y7:=Y7.later hb_w9
 have p_Y7:=Y7
 have z_Y7_w9:=Y7.lt
 replace M7:=M7.later hb_w9
 replace R8:=R8.later hb_w9
 have a_w9_0:Below w9.heap.size w9 (w9.alloc (.cells #[.slice v9.A s5.h.ws.length v9.ca,.int .i64 s5.h.n,.slice v9.U s5.h.us.length v9.cu,.slice v9.V s5.h.l.length v9.cv,.int .i64 s5.n,.slice O9 s5.os.length k9,.int .u64 (s5.fa:Nat),.int .u64 (s5.go:Nat)] 79)):=Below.alloc (Below.refl _ _) (Nat.le_refl _) _
 replace X5:=X5.later a_w9_0
 replace M5:=M5.later a_w9_0
 replace Y7:=Y7.later a_w9_0
 replace M7:=M7.later a_w9_0
 replace R8:=R8.later a_w9_0
 have b_w9_0:Below w.heap.size w (w9.alloc (.cells #[.slice v9.A s5.h.ws.length v9.ca,.int .i64 s5.h.n,.slice v9.U s5.h.us.length v9.cu,.slice v9.V s5.h.l.length v9.cv,.int .i64 s5.n,.slice O9 s5.os.length k9,.int .u64 (s5.fa:Nat),.int .u64 (s5.go:Nat)] 79)):=b_w9.trans (a_w9_0.mono b_w9.size)
 obtain ⟨X5_0,X5_1,X5_2,X5_3,X5_4,X5_5,X5_6,X5_7,X5_f⟩:=id p_X5
 go_wp2_with fail
 go_at_call 53
 refine (H9.out _ _ _ _ (hz.later (by exact b_w9_0)) (by exact M5) n4).mono ?_
 rintro e w10 ⟨v10,O10,k10,rfl,o10,hb_w10⟩
 clear p_X5 p_Y7
 clear X5_0 X5_1 X5_2 X5_3 X5_4 X5_5 X5_6 X5_7 X5_f
 have b_w10:Below w.heap.size w w10:=b_w9_0.trans (hb_w10.mono b_w9_0.size)
 replace X5:=X5.later hb_w10
 have p_X5:=X5
 have z_X5_w10:=X5.lt
 replace M5:=M5.later hb_w10
 replace Y7:=Y7.later hb_w10
 have p_Y7:=Y7
 have z_Y7_w10:=Y7.lt
 replace M7:=M7.later hb_w10
 replace R8:=R8.later hb_w10
 have a_w10_0:Below w10.heap.size w10 (w10.alloc (.cells #[.slice v10.A s6.h.ws.length v10.ca,.int .i64 s6.h.n,.slice v10.U s6.h.us.length v10.cu,.slice v10.V s6.h.l.length v10.cv,.int .i64 s6.n,.slice O10 s6.os.length k10,.int .u64 (s6.fa:Nat),.int .u64 (s6.go:Nat)] 79)):=Below.alloc (Below.refl _ _) (Nat.le_refl _) _
 replace X5:=X5.later a_w10_0
 replace M5:=M5.later a_w10_0
 replace Y7:=Y7.later a_w10_0
 replace M7:=M7.later a_w10_0
 replace R8:=R8.later a_w10_0
 have b_w10_0:Below w.heap.size w (w10.alloc (.cells #[.slice v10.A s6.h.ws.length v10.ca,.int .i64 s6.h.n,.slice v10.U s6.h.us.length v10.cu,.slice v10.V s6.h.l.length v10.cv,.int .i64 s6.n,.slice O10 s6.os.length k10,.int .u64 (s6.fa:Nat),.int .u64 (s6.go:Nat)] 79)):=b_w10.trans (a_w10_0.mono b_w10.size)
 obtain ⟨rb,ro,rfl,rl,rc⟩:=R8.at_ (by simp)
 have rc0:=rc 0 (by simp)
 simp only [Nat.add_zero,List.getD_cons_zero] at rc0
 clear rc
 obtain ⟨Y7_0,Y7_1,Y7_2,Y7_3,Y7_4,Y7_5,Y7_6,Y7_7,Y7_f⟩:=id p_Y7
 have z2:((2:Nat):Int)=2:=rfl
 rw [HF4.out,z2] at Y7_6
 rw [HF4.out,z2] at H10
 go_wp2_with fail
 go_at_call 65
 refine (H10.out _ _ _ _ (hz.later (by exact b_w10_0)) (by exact M7)).mono ?_
 rintro e w11 ⟨rfl,hb_w11⟩
 have b_w11:=b_w10_0.trans (hb_w11.mono b_w10_0.size)
 go_wp2
 go_ret
 exact ⟨rfl,b_w11⟩
def flh:Hp:=plcH (groH lh0 1 1 2 0) 0 0 0 0 false
theorem flnew:NewE lh0 0 0 false flh 16 0:=by
 refine .inr (.inr (.inr ⟨lk0,by decide,rfl,0,0,groH lh0 1 1 2 0,.inr (.inl ⟨by decide,.inr (.inl ⟨lk0.framed.spans,.inl ⟨rfl,fun i hi=>absurd hi (Nat.not_lt_zero i)⟩,rfl,rfl,rfl⟩),?_,rfl⟩),rfl,by decide +kernel⟩))
 have e1:pgOf (0 + 1)=1:=by decide
 have e2:szn 0=2:=by decide
 rw [e1,e2]
 refine .inr (.inr ⟨1,0,.inl ⟨rfl,1,by decide,by decide +kernel,fun j hj=>?_,by decide⟩,by decide,.inl ⟨.inl ⟨rfl,fun i hi=>absurd hi (Nat.not_lt_zero i)⟩,rfl⟩,rfl,rfl,rfl⟩)
 obtain rfl | rfl:j=0 ∨ j=1:=by omega
 ·decide +kernel
 ·decide +kernel
theorem flk:OkH flh:=flnew.made.2.1
def fs2:Sc:=makS flh
theorem fk2:OkS fs2:=makS_ok flk
def fs3:Sc:=relSc fs2 9
theorem fk3:OkS fs3:=relSc_ok fk2 9
def flh4:Hp:=plcH (groH flh 2 2 0 1) 1 0 20 0 false
theorem flnew4:NewE flh 20 0 false flh4 32 0:=by
 refine .inr (.inr (.inr ⟨flk,by decide,rfl,1,0,groH flh 2 2 0 1,.inr (.inr ⟨by decide,?_,rfl⟩),rfl,by decide +kernel⟩))
 have e1:pgOf (20 + 1)=2:=by decide
 have e2:szn 20=0:=by decide
 rw [e1,e2]
 refine .inr (.inr ⟨2,1,.inl ⟨rfl,3,by decide,by decide +kernel,fun j hj=>?_,by decide⟩,by decide,.inl ⟨.inl ⟨rfl,fun i hi=>?_⟩,rfl⟩,rfl,rfl,rfl⟩)
 ·obtain rfl | rfl | rfl | rfl:j=0 ∨ j=1 ∨ j=2 ∨ j=3:=by omega
  ·decide +kernel
  ·decide +kernel
  ·decide +kernel
  ·decide +kernel
 ·have hi:i < 1:=hi
  obtain rfl:i=0:=by omega
  decide +kernel
theorem flk4:OkH flh4:=flnew4.made.2.1
def fs4:Sc:=newSc fs3 flh4
theorem fk4:OkS fs4:=newSc_ok fk3 flk4 (by decide +kernel)
theorem flives_any (w:World) (hz:Sizes w):Calls Tryz.prog 57 #[] w fun e w'=>e=.returned (.bool true)∧Below w.heap.size w w':=
 flives_gen (h0:=lh0) (h1:=flh) (s2:=fs2) (s3:=fs3) (s4:=fs4) (s5:=relSc fs3 (keeQ fs3 0)) (s6:=fs3) (a1:=16) (a4:=32) flk lk0 lmake flnew (.inr ⟨flk,rfl,rfl⟩) (.inr (.inr ⟨fk2,by decide,rfl,by decide +kernel,rfl⟩)) (.inr ⟨fk3,by decide +kernel,by decide +kernel,rfl⟩) (.inr (.inr ⟨fk3,flh4,flnew4,rfl,rfl⟩))
  (.inr ⟨fk3,by decide +kernel,rfl⟩) (.inr (.inr ⟨fk3,by decide,rfl,by decide +kernel,rfl⟩)) (.inr (.inl ⟨fk3,by decide,rfl,rfl,rfl⟩)) fk2 fk3 fk4 (by decide +kernel) (by decide +kernel) w hz
set_option maxHeartbeats 16000000 in
theorem scavAsks_walk (v:Hv) (O:Option Addr) (co:Nat) (s:Sc) (vh:Hv) (h:Hp) (w:World) (hz:Sizes w) (m:SM w v O s) (hs:Short s.h) (hnil:v.V=none → v.cv=0) (mh:HM w w.heap.size vh h) (hsh:Short h) (hnh:vh.V=none → vh.cv=0) :
  Calls Tryz.prog 9 #[scV v O co s,hpV vh h] w fun e w'=>e=.returned (.bool true)∧Below w.heap.size w w':=by
 obtain ⟨a,b,y1,E1⟩:=TheE.ex s
 obtain ⟨t,y2,E2⟩:=RunE.ex s
 obtain ⟨s',y3,E3⟩:=MkS.ex h
 obtain ⟨yc,hyc⟩:∃ y:Int,(OkS s∧y=0) ∨ (¬ OkS s∧y=2):=by
  by_cases hk:OkS s
  ·exact ⟨0,.inl ⟨hk,rfl⟩⟩
  ·exact ⟨2,.inr ⟨hk,rfl⟩⟩
 have hl2:s.h.l.length ≤ 17592186044416:=Nat.le_trans hs.l (by decide)
 obtain ⟨hs',ho'⟩:Short s'.h∧s'.os.length ≤ 17592186044416:=by
  rcases E3 with ⟨_,rfl,_⟩ | ⟨hk,rfl,_⟩
  ·exact ⟨⟨Nat.zero_le _,Nat.zero_le _,Nat.zero_le _,fun d hd=>(by cases hd)⟩,Nat.zero_le _⟩
  ·refine ⟨hsh,?_⟩
   have hn:=hk.framed.pages.1
   have hn2:=hk.framed.pages.2.1
   show (wordsN h.n).length ≤ _
   have hl:(wordsN h.n).length=((h.n + 63) / 64).toNat:=by simp [wordsN]
   omega
 have ht:t.length ≤ 5000:=by
  rcases E2 with ⟨_,rfl,_⟩ | ⟨hk,rfl,_⟩
  ·exact Nat.zero_le _
  ·obtain ⟨n0,n1,_⟩:=hk.nn
   have h1:=srtD_len (rInts s.h.us s.n.toNat)
   have h2:=rInts_len s.h.us s.n.toNat
   have h3:=runsL_len s.h.us s.n.toNat
   omega
 have HT:=Lib.hid fun (w:World) (v:Hv) (O:Option Addr) (co:Nat) z m n=>fthere_any (w:=w) (v:=v) (O:=O) (s:=s) co z m hs n a b y1 E1
 have HTX:=Lib.hid fun (w:World) (v:Hv) (O:Option Addr) (co:Nat) m=>xthereS_any (w:=w) (v:=v) (O:=O) (s:=s) co m hl2 a b y1 E1
 have HR:=Lib.hid fun (w:World) (v:Hv) (O:Option Addr) (co:Nat) z m=>frunsX_any (w:=w) (v:=v) (O:=O) (s:=s) co z m hs t y2 E2
 have HRX:=Lib.hid fun (w:World) (v:Hv) (O:Option Addr) (co:Nat) m=>xrunsS_any (w:=w) (v:=v) (O:=O) (s:=s) co m hl2 t y2 E2
 have HM:=Lib.hid fun (w:World) (v:Hv) z m n=>fmake_any (w:=w) (v:=v) (h:=h) z m hsh n s' y3 E3
 have HMX:=Lib.hid fun (w:World) (v:Hv) m=>xmakeS_any (w:=w) (v:=v) (h:=h) m (Nat.le_trans hsh.l (by decide)) s' y3 E3
 have HS:=Lib.hid fun (w:World) (v v':Hv) (O O':Option Addr) (c c':Nat) m m'=>xsameS_any (w:=w) (v:=v) (v':=v') (O:=O) (O':=O') (s:=s') c c' m m' hs' ho'
 have HC:=Lib.hid fun (w:World) (v:Hv) (O:Option Addr) (co:Nat) z m=>fcheck_any (w:=w) (v:=v) (O:=O) (s:=s) co z m hs yc hyc
 have HD:=Lib.hid fun (w:World) (v:Hv) (O:Option Addr) (co:Nat) m=>xcheckS_any (w:=w) (v:=v) (O:=O) (s:=s) co m hl2 yc hyc
 clear E1 E2 E3 hyc hl2 hs' ho'
 unfold scV at HT HTX HR HRX HM HMX HS HC HD ⊢
 unfold hpV hpv at HM HMX ⊢
 have aS:Below w.heap.size w (w.alloc (.cells #[.slice v.A s.h.ws.length v.ca,.int .i64 s.h.n,.slice v.U s.h.us.length v.cu,.slice v.V s.h.l.length v.cv,.int .i64 s.n,.slice O s.os.length co,.int .u64 (s.fa:Nat),.int .u64 (s.go:Nat)] 79)):=Below.alloc (Below.refl _ _) (Nat.le_refl _) _
 have X0:=E8.new w (.slice v.A s.h.ws.length v.ca) (.int .i64 s.h.n) (.slice v.U s.h.us.length v.cu) (.slice v.V s.h.l.length v.cv) (.int .i64 s.n) (.slice O s.os.length co) (.int .u64 (s.fa:Nat)) (.int .u64 (s.go:Nat)) 79
 have M0:=m.later aS
 have N0:=mh.later aS
 have zx:=X0.lt
 have ah:Below (w.alloc (.cells #[.slice v.A s.h.ws.length v.ca,.int .i64 s.h.n,.slice v.U s.h.us.length v.cu,.slice v.V s.h.l.length v.cv,.int .i64 s.n,.slice O s.os.length co,.int .u64 (s.fa:Nat),.int .u64 (s.go:Nat)] 79)).heap.size (w.alloc (.cells #[.slice v.A s.h.ws.length v.ca,.int .i64 s.h.n,.slice v.U s.h.us.length v.cu,.slice v.V s.h.l.length v.cv,.int .i64 s.n,.slice O s.os.length co,.int .u64 (s.fa:Nat),.int .u64 (s.go:Nat)] 79)) ((w.alloc (.cells #[.slice v.A s.h.ws.length v.ca,.int .i64 s.h.n,.slice v.U s.h.us.length v.cu,.slice v.V s.h.l.length v.cv,.int .i64 s.n,.slice O s.os.length co,.int .u64 (s.fa:Nat),.int .u64 (s.go:Nat)] 79)).alloc (.cells #[.slice vh.A h.ws.length vh.ca,.int .i64 h.n,.slice vh.U h.us.length vh.cu,.slice vh.V h.l.length vh.cv] 31)):=Below.alloc (Below.refl _ _) (Nat.le_refl _) _
 have H0:=HIn.new N0 31
 simp only [zA] at H0
 replace X0:=X0.later ah
 replace M0:=M0.later ah
 have b_0:=aS.trans (ah.mono aS.size)
 clear aS ah N0 m mh hs hsh
 have na:(a != a)=false:=by simp
 have nb:(b != b)=false:=by simp
 have n1:(y1 != y1)=false:=by simp
 have n2:(y2 != y2)=false:=by simp
 have n3:(y3 != y3)=false:=by simp
 have nc:(yc != yc)=false:=by simp
 have nl:((t.length:Int) != (t.length:Int))=false:=by simp
 go_enter Tryz.func9,Tryz.ntmps9
 obtain ⟨x0,x1,x2,x3,x4,x5,x6,x7,xf⟩:=id X0
 go_wp2_with fail
 go_at_call 59
 refine (HT.out _ _ _ _ (hz.later (by exact b_0)) (by exact M0) hnil).mono ?_
 rintro e w1 ⟨rfl,hb_w1⟩
 clear x0 x1 x2 x3 x4 x5 x6 x7 xf
 have b_w1:=b_0.trans (hb_w1.mono b_0.size)
 replace X0:=X0.later hb_w1
 replace M0:=M0.later hb_w1
 replace H0:=H0.later hb_w1
 obtain ⟨x0,x1,x2,x3,x4,x5,x6,x7,xf⟩:=id X0
 go_wp2_with fail
 go_at_call 60
 refine (HTX.out _ _ _ _ (by exact M0)).mono ?_
 rintro e w2 ⟨rfl,hb_w2⟩
 clear x0 x1 x2 x3 x4 x5 x6 x7 xf
 have b_w2:=b_w1.trans (hb_w2.mono b_w1.size)
 replace X0:=X0.later hb_w2
 replace M0:=M0.later hb_w2
 replace H0:=H0.later hb_w2
 obtain ⟨x0,x1,x2,x3,x4,x5,x6,x7,xf⟩:=id X0
 go_wp2_with fail
 go_at_call 61
 refine (HR.out _ _ _ _ (hz.later (by exact b_w2)) (by exact M0)).mono ?_
 rintro e w3 ⟨A3,c3,rfl,R3,hb_w3⟩
 clear x0 x1 x2 x3 x4 x5 x6 x7 xf
 have b_w3:=b_w2.trans (hb_w3.mono b_w2.size)
 replace X0:=X0.later hb_w3
 replace M0:=M0.later hb_w3
 replace H0:=H0.later hb_w3
 obtain ⟨x0,x1,x2,x3,x4,x5,x6,x7,xf⟩:=id X0
 go_wp2_with fail
 go_at_call 62
 refine (HRX.out _ _ _ _ (by exact M0)).mono ?_
 rintro e w4 ⟨A4,c4,rfl,R4,hb_w4⟩
 clear x0 x1 x2 x3 x4 x5 x6 x7 xf
 have b_w4:=b_w3.trans (hb_w4.mono b_w3.size)
 replace X0:=X0.later hb_w4
 replace M0:=M0.later hb_w4
 replace H0:=H0.later hb_w4
 replace R3:=R3.later hb_w4
 obtain ⟨h0,h1,h2,h3,g0,g1,g2,g3⟩:=id H0.box
 go_wp2_with fail
 go_at_call 63
 refine (HM.out _ _ (hz.later (by exact b_w4)) (by exact H0.m) hnh).mono ?_
 rintro e w5 ⟨v5,O5,c5,rfl,o5,hb_w5⟩
 clear h0 h1 h2 h3 g0 g1 g2 g3
 have b_w5:=b_w4.trans (hb_w5.mono b_w4.size)
 replace X0:=X0.later hb_w5
 replace M0:=M0.later hb_w5
 replace H0:=H0.later hb_w5
 replace R3:=R3.later hb_w5
 replace R4:=R4.later hb_w5
 have Hp:=H0
 have zh:=H0.lt
 have a_5:Below w5.heap.size w5 (w5.alloc (.cells #[.slice v5.A s'.h.ws.length v5.ca,.int .i64 s'.h.n,.slice v5.U s'.h.us.length v5.cu,.slice v5.V s'.h.l.length v5.cv,.int .i64 s'.n,.slice O5 s'.os.length c5,.int .u64 (s'.fa:Nat),.int .u64 (s'.go:Nat)] 79)):=Below.alloc (Below.refl _ _) (Nat.le_refl _) _
 have Y5:=E8.new w5 (.slice v5.A s'.h.ws.length v5.ca) (.int .i64 s'.h.n) (.slice v5.U s'.h.us.length v5.cu) (.slice v5.V s'.h.l.length v5.cv) (.int .i64 s'.n) (.slice O5 s'.os.length c5) (.int .u64 (s'.fa:Nat)) (.int .u64 (s'.go:Nat)) 79
 have M5:=o5.sm.later a_5
 replace X0:=X0.later a_5
 replace M0:=M0.later a_5
 replace H0:=H0.later a_5
 replace R3:=R3.later a_5
 replace R4:=R4.later a_5
 have b_5:=b_w5.trans (a_5.mono b_w5.size)
 clear o5 a_5
 obtain ⟨h0,h1,h2,h3,g0,g1,g2,g3⟩:=id Hp.box
 go_wp2_with fail
 go_at_call 64
 refine (HMX.out _ _ (by exact H0.m)).mono ?_
 rintro e w6 ⟨v6,O6,c6,rfl,o6,hb_w6⟩
 clear h0 h1 h2 h3 g0 g1 g2 g3
 clear Hp zh
 have b_w6:=b_5.trans (hb_w6.mono b_5.size)
 replace X0:=X0.later hb_w6
 replace M0:=M0.later hb_w6
 replace R3:=R3.later hb_w6
 replace R4:=R4.later hb_w6
 replace Y5:=Y5.later hb_w6
 replace M5:=M5.later hb_w6
 clear H0
 have a_6:Below w6.heap.size w6 (w6.alloc (.cells #[.slice v6.A s'.h.ws.length v6.ca,.int .i64 s'.h.n,.slice v6.U s'.h.us.length v6.cu,.slice v6.V s'.h.l.length v6.cv,.int .i64 s'.n,.slice O6 s'.os.length c6,.int .u64 (s'.fa:Nat),.int .u64 (s'.go:Nat)] 79)):=Below.alloc (Below.refl _ _) (Nat.le_refl _) _
 have zx6:=X0.lt
 have zy6:=Y5.lt
 have Y6:=E8.new w6 (.slice v6.A s'.h.ws.length v6.ca) (.int .i64 s'.h.n) (.slice v6.U s'.h.us.length v6.cu) (.slice v6.V s'.h.l.length v6.cv) (.int .i64 s'.n) (.slice O6 s'.os.length c6) (.int .u64 (s'.fa:Nat)) (.int .u64 (s'.go:Nat)) 79
 have M6:=o6.sm.later a_6
 replace X0:=X0.later a_6
 replace M0:=M0.later a_6
 replace R3:=R3.later a_6
 replace R4:=R4.later a_6
 replace Y5:=Y5.later a_6
 replace M5:=M5.later a_6
 have b_6:=b_w6.trans (a_6.mono b_w6.size)
 clear o6 a_6
 go_wp2_with fail
 generalize hW6:w6.alloc (.cells #[.slice v6.A s'.h.ws.length v6.ca,.int .i64 s'.h.n,.slice v6.U s'.h.us.length v6.cu,.slice v6.V s'.h.l.length v6.cv,.int .i64 s'.n,.slice O6 s'.os.length c6,.int .u64 (s'.fa:Nat),.int .u64 (s'.go:Nat)] 79)=W6 at *
 have zx7:=X0.lt
 have zy7:=Y5.lt
 have zz7:=Y6.lt
 clear hW6 zx zx6 zy6
 obtain ⟨x0,x1,x2,x3,x4,x5,x6,x7,xf⟩:=id X0
 obtain ⟨y0,y1,y2,y3,y4,y5,y6,y7,yf⟩:=id Y5
 obtain ⟨q0,q1,q2,q3,q4,q5,q6,q7,qf⟩:=id Y6
 refine wp_region_held_drew (S:=(fun X:World=>X.cell? ⟨w.heap.size,0,none⟩=some (.slice v.A s.h.ws.length v.ca)∧X.cell? ⟨w.heap.size,1,none⟩=some (.int .i64 s.h.n)∧X.cell? ⟨w.heap.size,2,none⟩=some (.slice v.U s.h.us.length v.cu)∧X.cell? ⟨w.heap.size,3,none⟩=some (.slice v.V s.h.l.length v.cv)∧X.cell? ⟨w.heap.size,4,none⟩=some (.int .i64 s.n)∧X.cell? ⟨w.heap.size,5,none⟩=some (.slice O s.os.length co)∧X.cell? ⟨w.heap.size,6,none⟩=some (.int .u64 (s.fa:Nat))∧X.cell? ⟨w.heap.size,7,none⟩=some (.int .u64 (s.go:Nat))∧X.cell? ⟨w5.heap.size,0,none⟩=some (.slice v5.A s'.h.ws.length v5.ca)∧X.cell? ⟨w5.heap.size,1,none⟩=some (.int .i64 s'.h.n)∧X.cell? ⟨w5.heap.size,2,none⟩=some (.slice v5.U s'.h.us.length v5.cu)∧X.cell? ⟨w5.heap.size,3,none⟩=some (.slice v5.V s'.h.l.length v5.cv)∧X.cell? ⟨w5.heap.size,4,none⟩=some (.int .i64 s'.n)∧X.cell? ⟨w5.heap.size,5,none⟩=some (.slice O5 s'.os.length c5)∧X.cell? ⟨w5.heap.size,6,none⟩=some (.int .u64 (s'.fa:Nat))∧X.cell? ⟨w5.heap.size,7,none⟩=some (.int .u64 (s'.go:Nat))∧X.cell? ⟨w6.heap.size,0,none⟩=some (.slice v6.A s'.h.ws.length v6.ca)∧X.cell? ⟨w6.heap.size,1,none⟩=some (.int .i64 s'.h.n)∧X.cell? ⟨w6.heap.size,2,none⟩=some (.slice v6.U s'.h.us.length v6.cu)∧X.cell? ⟨w6.heap.size,3,none⟩=some (.slice v6.V s'.h.l.length v6.cv)∧X.cell? ⟨w6.heap.size,4,none⟩=some (.int .i64 s'.n)∧X.cell? ⟨w6.heap.size,5,none⟩=some (.slice O6 s'.os.length c6)∧X.cell? ⟨w6.heap.size,6,none⟩=some (.int .u64 (s'.fa:Nat))∧X.cell? ⟨w6.heap.size,7,none⟩=some (.int .u64 (s'.go:Nat)))) (by kernel_rfl) ?_ fun _=>?_
 ·exact kS
 refine tR 0 fun K hK=>?_
 try simp only [qZ]
 go_simp
 go_at_call 57
 refine (flives_any _ (hz.later bX)).mono ?_
 rintro e w7 ⟨rfl,hb_w7⟩
 have d_w7:Below W6.heap.size W6 w7:=bX
 have u7:=d_w7.size
 have mw70:w7.cell? ⟨w.heap.size,0,none⟩=some (.slice v.A s.h.ws.length v.ca):=cX hb_w7
 have mw71:w7.cell? ⟨w.heap.size,1,none⟩=some (.int .i64 s.h.n):=cX hb_w7
 have mw72:w7.cell? ⟨w.heap.size,2,none⟩=some (.slice v.U s.h.us.length v.cu):=cX hb_w7
 have mw73:w7.cell? ⟨w.heap.size,3,none⟩=some (.slice v.V s.h.l.length v.cv):=cX hb_w7
 have mw74:w7.cell? ⟨w.heap.size,4,none⟩=some (.int .i64 s.n):=cX hb_w7
 have mw75:w7.cell? ⟨w.heap.size,5,none⟩=some (.slice O s.os.length co):=cX hb_w7
 have mw76:w7.cell? ⟨w.heap.size,6,none⟩=some (.int .u64 (s.fa:Nat)):=cX hb_w7
 have mw77:w7.cell? ⟨w.heap.size,7,none⟩=some (.int .u64 (s.go:Nat)):=cX hb_w7
 have mw78:w7.cell? ⟨w5.heap.size,0,none⟩=some (.slice v5.A s'.h.ws.length v5.ca):=cX hb_w7
 have mw79:w7.cell? ⟨w5.heap.size,1,none⟩=some (.int .i64 s'.h.n):=cX hb_w7
 have mw710:w7.cell? ⟨w5.heap.size,2,none⟩=some (.slice v5.U s'.h.us.length v5.cu):=cX hb_w7
 have mw711:w7.cell? ⟨w5.heap.size,3,none⟩=some (.slice v5.V s'.h.l.length v5.cv):=cX hb_w7
 have mw712:w7.cell? ⟨w5.heap.size,4,none⟩=some (.int .i64 s'.n):=cX hb_w7
 have mw713:w7.cell? ⟨w5.heap.size,5,none⟩=some (.slice O5 s'.os.length c5):=cX hb_w7
 have mw714:w7.cell? ⟨w5.heap.size,6,none⟩=some (.int .u64 (s'.fa:Nat)):=cX hb_w7
 have mw715:w7.cell? ⟨w5.heap.size,7,none⟩=some (.int .u64 (s'.go:Nat)):=cX hb_w7
 have mw716:w7.cell? ⟨w6.heap.size,0,none⟩=some (.slice v6.A s'.h.ws.length v6.ca):=cX hb_w7
 have mw717:w7.cell? ⟨w6.heap.size,1,none⟩=some (.int .i64 s'.h.n):=cX hb_w7
 have mw718:w7.cell? ⟨w6.heap.size,2,none⟩=some (.slice v6.U s'.h.us.length v6.cu):=cX hb_w7
 have mw719:w7.cell? ⟨w6.heap.size,3,none⟩=some (.slice v6.V s'.h.l.length v6.cv):=cX hb_w7
 have mw720:w7.cell? ⟨w6.heap.size,4,none⟩=some (.int .i64 s'.n):=cX hb_w7
 have mw721:w7.cell? ⟨w6.heap.size,5,none⟩=some (.slice O6 s'.os.length c6):=cX hb_w7
 have mw722:w7.cell? ⟨w6.heap.size,6,none⟩=some (.int .u64 (s'.fa:Nat)):=cX hb_w7
 have mw723:w7.cell? ⟨w6.heap.size,7,none⟩=some (.int .u64 (s'.go:Nat)):=cX hb_w7
 try go_wp2_with fail
 refine hK.out _ _ ?_ fun _=>?_
 ·exact kS
 clear hK K
 try simp only [Act.put,qZ]
 refine tR 1 fun K hK=>?_
 try simp only [qZ]
 go_simp
 refine hK.out _ _ ?_ fun _=>?_
 ·exact kS
 clear hK K
 try simp only [Act.put,qZ]
 refine tY 2 ?_
 try simp only [Act.put,qZ]
 refine tY 3 ?_
 try simp only [Act.put,qZ]
 refine tY 4 ?_
 try simp only [Act.put,qZ]
 refine tR 5 fun K hK=>?_
 try simp only [qZ]
 go_simp
 refine hK.out _ _ ?_ fun _=>?_
 ·exact kS
 clear hK K
 try simp only [Act.put,qZ]
 refine tR 6 fun K hK=>?_
 try simp only [qZ]
 go_simp
 refine hK.out _ _ ?_ fun _=>?_
 ·exact kS
 clear hK K
 try simp only [Act.put,qZ]
 refine tY 7 ?_
 try simp only [Act.put,qZ]
 refine tY 8 ?_
 try simp only [Act.put,qZ]
 refine tY 9 ?_
 try simp only [Act.put,qZ]
 refine tR 10 fun K hK=>?_
 try simp only [qZ]
 go_simp
 refine hK.out _ _ ?_ fun _=>?_
 ·exact kS
 clear hK K
 try simp only [Act.put,qZ]
 refine tR 11 fun K hK=>?_
 try simp only [qZ]
 go_simp
 refine hK.out _ _ ?_ fun _=>?_
 ·exact kS
 clear hK K
 try simp only [Act.put,qZ]
 refine tY 12 ?_
 try simp only [Act.put,qZ]
 refine tY 13 ?_
 try simp only [Act.put,qZ]
 refine tY 14 ?_
 try simp only [Act.put,qZ]
 refine tR 15 fun K hK=>?_
 try simp only [qZ]
 go_simp
 refine hK.out _ _ ?_ fun _=>?_
 ·exact kS
 clear hK K
 try simp only [Act.put,qZ]
 refine tR 16 fun K hK=>?_
 try simp only [qZ]
 go_simp
 refine hK.out _ _ ?_ fun _=>?_
 ·exact kS
 clear hK K
 try simp only [Act.put,qZ]
 refine tY 17 ?_
 try simp only [Act.put,qZ]
 refine tY 18 ?_
 try simp only [Act.put,qZ]
 refine tY 19 ?_
 try simp only [Act.put,qZ]
 refine tY 20 ?_
 try simp only [Act.put,qZ]
 refine tY 21 ?_
 try simp only [Act.put,qZ]
 refine tR 22 fun K hK=>?_
 try simp only [qZ]
 go_simp
 refine hK.out _ _ ?_ fun _=>?_
 ·exact kS
 clear hK K
 try simp only [Act.put,qZ]
 refine tR 23 fun K hK=>?_
 try simp only [qZ]
 go_simp
 refine hK.out _ _ ?_ fun _=>?_
 ·exact kS
 clear hK K
 try simp only [Act.put,qZ]
 refine tY 24 ?_
 try simp only [Act.put,qZ]
 refine tY 25 ?_
 try simp only [Act.put,qZ]
 refine tY 26 ?_
 try simp only [Act.put,qZ]
 refine tR 27 fun K hK=>?_
 try simp only [qZ]
 go_simp
 refine hK.out _ _ ?_ fun _=>?_
 ·exact kS
 clear hK K
 try simp only [Act.put,qZ]
 refine tR 28 fun K hK=>?_
 try simp only [qZ]
 go_simp
 refine hK.out _ _ ?_ fun _=>?_
 ·exact kS
 clear hK K
 try simp only [Act.put,qZ]
 refine tY 29 ?_
 try simp only [Act.put,qZ]
 refine tY 30 ?_
 try simp only [Act.put,qZ]
 refine tY 31 ?_
 try simp only [Act.put,qZ]
 refine tR 32 fun K hK=>?_
 try simp only [qZ]
 go_simp
 go_at_call 58
 refine (HS.out _ _ _ _ _ _ _ ((M5.later d_w7).later bX) ((M6.later d_w7).later bX)).mono ?_
 rintro e w8 ⟨rfl,hb_w8⟩
 have d_w8:Below W6.heap.size W6 w8:=below_trans d_w7 hb_w8 lX
 have u8:=d_w8.size
 have mw80:w8.cell? ⟨w.heap.size,0,none⟩=some (.slice v.A s.h.ws.length v.ca):=cX hb_w8
 have mw81:w8.cell? ⟨w.heap.size,1,none⟩=some (.int .i64 s.h.n):=cX hb_w8
 have mw82:w8.cell? ⟨w.heap.size,2,none⟩=some (.slice v.U s.h.us.length v.cu):=cX hb_w8
 have mw83:w8.cell? ⟨w.heap.size,3,none⟩=some (.slice v.V s.h.l.length v.cv):=cX hb_w8
 have mw84:w8.cell? ⟨w.heap.size,4,none⟩=some (.int .i64 s.n):=cX hb_w8
 have mw85:w8.cell? ⟨w.heap.size,5,none⟩=some (.slice O s.os.length co):=cX hb_w8
 have mw86:w8.cell? ⟨w.heap.size,6,none⟩=some (.int .u64 (s.fa:Nat)):=cX hb_w8
 have mw87:w8.cell? ⟨w.heap.size,7,none⟩=some (.int .u64 (s.go:Nat)):=cX hb_w8
 have mw88:w8.cell? ⟨w5.heap.size,0,none⟩=some (.slice v5.A s'.h.ws.length v5.ca):=cX hb_w8
 have mw89:w8.cell? ⟨w5.heap.size,1,none⟩=some (.int .i64 s'.h.n):=cX hb_w8
 have mw810:w8.cell? ⟨w5.heap.size,2,none⟩=some (.slice v5.U s'.h.us.length v5.cu):=cX hb_w8
 have mw811:w8.cell? ⟨w5.heap.size,3,none⟩=some (.slice v5.V s'.h.l.length v5.cv):=cX hb_w8
 have mw812:w8.cell? ⟨w5.heap.size,4,none⟩=some (.int .i64 s'.n):=cX hb_w8
 have mw813:w8.cell? ⟨w5.heap.size,5,none⟩=some (.slice O5 s'.os.length c5):=cX hb_w8
 have mw814:w8.cell? ⟨w5.heap.size,6,none⟩=some (.int .u64 (s'.fa:Nat)):=cX hb_w8
 have mw815:w8.cell? ⟨w5.heap.size,7,none⟩=some (.int .u64 (s'.go:Nat)):=cX hb_w8
 have mw816:w8.cell? ⟨w6.heap.size,0,none⟩=some (.slice v6.A s'.h.ws.length v6.ca):=cX hb_w8
 have mw817:w8.cell? ⟨w6.heap.size,1,none⟩=some (.int .i64 s'.h.n):=cX hb_w8
 have mw818:w8.cell? ⟨w6.heap.size,2,none⟩=some (.slice v6.U s'.h.us.length v6.cu):=cX hb_w8
 have mw819:w8.cell? ⟨w6.heap.size,3,none⟩=some (.slice v6.V s'.h.l.length v6.cv):=cX hb_w8
 have mw820:w8.cell? ⟨w6.heap.size,4,none⟩=some (.int .i64 s'.n):=cX hb_w8
 have mw821:w8.cell? ⟨w6.heap.size,5,none⟩=some (.slice O6 s'.os.length c6):=cX hb_w8
 have mw822:w8.cell? ⟨w6.heap.size,6,none⟩=some (.int .u64 (s'.fa:Nat)):=cX hb_w8
 have mw823:w8.cell? ⟨w6.heap.size,7,none⟩=some (.int .u64 (s'.go:Nat)):=cX hb_w8
 try go_wp2_with fail
 refine hK.out _ _ ?_ fun _=>?_
 ·exact kS
 clear hK K
 try simp only [Act.put,qZ]
 refine tR 33 fun K hK=>?_
 try simp only [qZ]
 go_simp
 refine hK.out _ _ ?_ fun _=>?_
 ·exact kS
 clear hK K
 try simp only [Act.put,qZ]
 refine tR 34 fun K hK=>?_
 try simp only [qZ]
 go_simp
 refine hK.out _ _ ?_ fun _=>?_
 ·exact kS
 clear hK K
 try simp only [Act.put,qZ]
 refine tY 35 ?_
 try simp only [Act.put,qZ]
 refine tY 36 ?_
 try simp only [Act.put,qZ]
 refine tY 37 ?_
 try simp only [Act.put,qZ]
 refine tR 38 fun K hK=>?_
 try simp only [qZ]
 go_simp
 refine hK.out _ _ ?_ fun _=>?_
 ·exact kS
 clear hK K
 try simp only [Act.put,qZ]
 refine tR 39 fun K hK=>?_
 try simp only [qZ]
 go_simp
 refine hK.out _ _ ?_ fun _=>?_
 ·exact kS
 clear hK K
 try simp only [Act.put,qZ]
 refine tY 40 ?_
 try simp only [Act.put,qZ]
 refine tY 41 ?_
 try simp only [Act.put,qZ]
 refine tY 43 ?_
 try simp only [Act.put,qZ]
 refine tR 42 fun K hK=>?_
 try simp only [qZ]
 go_simp
 go_at_call 65
 refine (HC.out _ _ _ _ ((hz.later (b_6.trans (d_w8.mono b_6.size))).later bX) ((M0.later d_w8).later bX)).mono ?_
 rintro e w9 ⟨rfl,hb_w9⟩
 have d_w9:Below W6.heap.size W6 w9:=below_trans d_w8 hb_w9 lX
 have u9:=d_w9.size
 have mw90:w9.cell? ⟨w.heap.size,0,none⟩=some (.slice v.A s.h.ws.length v.ca):=cX hb_w9
 have mw91:w9.cell? ⟨w.heap.size,1,none⟩=some (.int .i64 s.h.n):=cX hb_w9
 have mw92:w9.cell? ⟨w.heap.size,2,none⟩=some (.slice v.U s.h.us.length v.cu):=cX hb_w9
 have mw93:w9.cell? ⟨w.heap.size,3,none⟩=some (.slice v.V s.h.l.length v.cv):=cX hb_w9
 have mw94:w9.cell? ⟨w.heap.size,4,none⟩=some (.int .i64 s.n):=cX hb_w9
 have mw95:w9.cell? ⟨w.heap.size,5,none⟩=some (.slice O s.os.length co):=cX hb_w9
 have mw96:w9.cell? ⟨w.heap.size,6,none⟩=some (.int .u64 (s.fa:Nat)):=cX hb_w9
 have mw97:w9.cell? ⟨w.heap.size,7,none⟩=some (.int .u64 (s.go:Nat)):=cX hb_w9
 have mw98:w9.cell? ⟨w5.heap.size,0,none⟩=some (.slice v5.A s'.h.ws.length v5.ca):=cX hb_w9
 have mw99:w9.cell? ⟨w5.heap.size,1,none⟩=some (.int .i64 s'.h.n):=cX hb_w9
 have mw910:w9.cell? ⟨w5.heap.size,2,none⟩=some (.slice v5.U s'.h.us.length v5.cu):=cX hb_w9
 have mw911:w9.cell? ⟨w5.heap.size,3,none⟩=some (.slice v5.V s'.h.l.length v5.cv):=cX hb_w9
 have mw912:w9.cell? ⟨w5.heap.size,4,none⟩=some (.int .i64 s'.n):=cX hb_w9
 have mw913:w9.cell? ⟨w5.heap.size,5,none⟩=some (.slice O5 s'.os.length c5):=cX hb_w9
 have mw914:w9.cell? ⟨w5.heap.size,6,none⟩=some (.int .u64 (s'.fa:Nat)):=cX hb_w9
 have mw915:w9.cell? ⟨w5.heap.size,7,none⟩=some (.int .u64 (s'.go:Nat)):=cX hb_w9
 have mw916:w9.cell? ⟨w6.heap.size,0,none⟩=some (.slice v6.A s'.h.ws.length v6.ca):=cX hb_w9
 have mw917:w9.cell? ⟨w6.heap.size,1,none⟩=some (.int .i64 s'.h.n):=cX hb_w9
 have mw918:w9.cell? ⟨w6.heap.size,2,none⟩=some (.slice v6.U s'.h.us.length v6.cu):=cX hb_w9
 have mw919:w9.cell? ⟨w6.heap.size,3,none⟩=some (.slice v6.V s'.h.l.length v6.cv):=cX hb_w9
 have mw920:w9.cell? ⟨w6.heap.size,4,none⟩=some (.int .i64 s'.n):=cX hb_w9
 have mw921:w9.cell? ⟨w6.heap.size,5,none⟩=some (.slice O6 s'.os.length c6):=cX hb_w9
 have mw922:w9.cell? ⟨w6.heap.size,6,none⟩=some (.int .u64 (s'.fa:Nat)):=cX hb_w9
 have mw923:w9.cell? ⟨w6.heap.size,7,none⟩=some (.int .u64 (s'.go:Nat)):=cX hb_w9
 try go_wp2_with fail
 refine hK.out _ _ ?_ fun _=>?_
 ·exact kS
 clear hK K
 try simp only [Act.put,qZ]
 refine tR 44 fun K hK=>?_
 try simp only [qZ]
 go_simp
 go_at_call 66
 refine (HD.out _ _ _ _ ((M0.later d_w9).later bX)).mono ?_
 rintro e wa ⟨rfl,hb_wa⟩
 have d_wa:Below W6.heap.size W6 wa:=below_trans d_w9 hb_wa lX
 have ua:=d_wa.size
 have mwa0:wa.cell? ⟨w.heap.size,0,none⟩=some (.slice v.A s.h.ws.length v.ca):=cX hb_wa
 have mwa1:wa.cell? ⟨w.heap.size,1,none⟩=some (.int .i64 s.h.n):=cX hb_wa
 have mwa2:wa.cell? ⟨w.heap.size,2,none⟩=some (.slice v.U s.h.us.length v.cu):=cX hb_wa
 have mwa3:wa.cell? ⟨w.heap.size,3,none⟩=some (.slice v.V s.h.l.length v.cv):=cX hb_wa
 have mwa4:wa.cell? ⟨w.heap.size,4,none⟩=some (.int .i64 s.n):=cX hb_wa
 have mwa5:wa.cell? ⟨w.heap.size,5,none⟩=some (.slice O s.os.length co):=cX hb_wa
 have mwa6:wa.cell? ⟨w.heap.size,6,none⟩=some (.int .u64 (s.fa:Nat)):=cX hb_wa
 have mwa7:wa.cell? ⟨w.heap.size,7,none⟩=some (.int .u64 (s.go:Nat)):=cX hb_wa
 have mwa8:wa.cell? ⟨w5.heap.size,0,none⟩=some (.slice v5.A s'.h.ws.length v5.ca):=cX hb_wa
 have mwa9:wa.cell? ⟨w5.heap.size,1,none⟩=some (.int .i64 s'.h.n):=cX hb_wa
 have mwa10:wa.cell? ⟨w5.heap.size,2,none⟩=some (.slice v5.U s'.h.us.length v5.cu):=cX hb_wa
 have mwa11:wa.cell? ⟨w5.heap.size,3,none⟩=some (.slice v5.V s'.h.l.length v5.cv):=cX hb_wa
 have mwa12:wa.cell? ⟨w5.heap.size,4,none⟩=some (.int .i64 s'.n):=cX hb_wa
 have mwa13:wa.cell? ⟨w5.heap.size,5,none⟩=some (.slice O5 s'.os.length c5):=cX hb_wa
 have mwa14:wa.cell? ⟨w5.heap.size,6,none⟩=some (.int .u64 (s'.fa:Nat)):=cX hb_wa
 have mwa15:wa.cell? ⟨w5.heap.size,7,none⟩=some (.int .u64 (s'.go:Nat)):=cX hb_wa
 have mwa16:wa.cell? ⟨w6.heap.size,0,none⟩=some (.slice v6.A s'.h.ws.length v6.ca):=cX hb_wa
 have mwa17:wa.cell? ⟨w6.heap.size,1,none⟩=some (.int .i64 s'.h.n):=cX hb_wa
 have mwa18:wa.cell? ⟨w6.heap.size,2,none⟩=some (.slice v6.U s'.h.us.length v6.cu):=cX hb_wa
 have mwa19:wa.cell? ⟨w6.heap.size,3,none⟩=some (.slice v6.V s'.h.l.length v6.cv):=cX hb_wa
 have mwa20:wa.cell? ⟨w6.heap.size,4,none⟩=some (.int .i64 s'.n):=cX hb_wa
 have mwa21:wa.cell? ⟨w6.heap.size,5,none⟩=some (.slice O6 s'.os.length c6):=cX hb_wa
 have mwa22:wa.cell? ⟨w6.heap.size,6,none⟩=some (.int .u64 (s'.fa:Nat)):=cX hb_wa
 have mwa23:wa.cell? ⟨w6.heap.size,7,none⟩=some (.int .u64 (s'.go:Nat)):=cX hb_wa
 try go_wp2_with fail
 refine hK.out _ _ ?_ fun _=>?_
 ·exact kS
 clear hK K
 try simp only [Act.put,qZ]
 refine tR 45 fun K hK=>?_
 try simp only [qZ]
 go_simp
 refine hK.out _ _ ?_ fun _=>?_
 ·exact kS
 clear hK K
 try simp only [Act.put,qZ]
 refine tR 46 fun K hK=>?_
 try simp only [qZ]
 go_simp
 refine hK.out _ _ ?_ fun _=>?_
 ·exact kS
 clear hK K
 try simp only [Act.put,qZ]
 refine wpAnyH_done (by kernel_rfl) ?_ _
 replace R3:=R3.later d_wa
 replace R4:=R4.later d_wa
 have b_a:=b_6.trans (d_wa.mono b_6.size)
 clear x0 x1 x2 x3 x4 x5 x6 x7 xf y0 y1 y2 y3 y4 y5 y6 y7 yf q0 q1 q2 q3 q4 q5 q6 q7 qf X0 Y5 Y6 M0 M5 M6
 go_wp2_with fail
 go_loopw [101] (fun ii wr=>∃ k:Nat,ii=.int .i64 (k:Nat)∧k ≤ t.length∧Below wa.heap.size wa wr) (fun ii _=>t.length - (intOf ii).toNat)
 case atStart=>exact ⟨0,rfl,Nat.zero_le _,bX⟩
 case round=>
  obtain ⟨k,rfl,hk,hb_wr⟩:=hrel
  have hsr:=hb_wr.size
  by_cases hlt:k < t.length
  ·obtain ⟨ga,oa,rfl,hga,ca⟩:=(R3.later hb_wr).at_ (by omega)
   obtain ⟨gb,ob,rfl,hgb,cb⟩:=(R4.later hb_wr).at_ (by omega)
   have ca:=ca k hlt
   have cb:=cb k hlt
   generalize t.getD k 0=x at *
   have nx:(x != x)=false:=by simp
   have i1:(k:Int) < (t.length:Int):=by omega
   have i2:(0:Int) ≤ (k:Int):=by omega
   go_wp2_with fail
   go_quiet (fail)
   go_wp2
   go_roundw
   case rel=>exact ⟨k + 1,by go_num,by omega,bX⟩
   case measure=>simp [intOf];omega
  ·go_wp2
   go_ret
   exact ⟨rfl,below_trans b_a hb_wr lX⟩
end Go.Proofs.YtafpkaifaccehaaGreatDoor
