/- Parts of the proof. -/
import Derived.Test.YtafpkaifaccehaaGreatDoorScavP13
import Derived.Deep.AppendSrc
import Derived.Lib.AppendZerosOnto
import Derived.Lib.SliceRun
set_option maxRecDepth 100000
set_option linter.unusedVariables false
set_option linter.unusedSimpArgs false
namespace Go.Proofs.YtafpkaifaccehaaGreatDoor
open Go.RowKit
structure Sv where
 d:Sd
 A:Option Addr
 ca:Nat
 M:Option Addr
 cm:Nat
def cells8 (v:Sv):List Value:=[.int .i64 v.d.f,.int .i64 v.d.p,.int .i64 v.d.z,.int .i64 v.d.an,.slice v.A v.d.aw.length v.ca,.int .i64 v.d.mn,.slice v.M v.d.mw.length v.cm,.bool v.d.s]
def flat8:List Sv → List Value
 | []=>[]
 | v :: l=>cells8 v ++ flat8 l
theorem flat8_len (l:List Sv):(flat8 l).length=l.length * 8:=by
 induction l with
 | nil=>rfl
 | cons v l ih=>simp only [flat8,List.length_append,ih,List.length_cons];show 8 + _=_;omega
theorem flat8_app (l m:List Sv):flat8 (l ++ m)=flat8 l ++ flat8 m:=by
 induction l with
 | nil=>rfl
 | cons v l ih=>simp [flat8,ih]
theorem flat8_one (l:List Sv):∀ v ∈ flat8 l,v.oneCell'=true:=by
 induction l with
 | nil=>intro v hv;simp [flat8] at hv
 | cons s l ih=>
  intro v hv
  simp only [flat8,List.mem_append] at hv
  rcases hv with hv | hv
  ·simp only [cells8,List.mem_cons,List.mem_nil_iff,or_false] at hv
   rcases hv with rfl | rfl | rfl | rfl | rfl | rfl | rfl | rfl <;> rfl
  ·exact ih v hv
theorem flat8_at (l:List Sv) (i j:Nat) (hj:j < 8):(flat8 l)[i * 8 + j]?=l[i]?.bind fun v=>(cells8 v)[j]?:=by
 induction l generalizing i with
 | nil=>simp [flat8]
 | cons v l ih=>
  cases i with
  | zero=>
   simp only [flat8,Nat.zero_mul,Nat.zero_add,List.getElem?_cons_zero,Option.bind_some]
   rw [List.getElem?_append_left (by show j < 8;exact hj)]
  | succ i=>
   simp only [flat8,List.getElem?_cons_succ]
   rw [List.getElem?_append_right (by show 8 ≤ _;omega),← ih i]
   congr 1
   show _ - 8=_
   omega
theorem flat8_set (l:List Sv) (i j:Nat) (v:Sv) (u:Value) (hi:i < l.length) (hj:j < 8) (hv:cells8 v=(cells8 l[i]).set j u):(flat8 l).set (i * 8 + j) u=flat8 (l.set i v):=by
 induction l generalizing i with
 | nil=>simp at hi
 | cons s l ih=>
  cases i with
  | zero=>
   simp only [List.set_cons_zero,flat8,Nat.zero_mul,Nat.zero_add]
   rw [List.set_append_left _ _ (by show j < 8;exact hj),hv]
   rfl
  | succ i=>
   simp only [List.set_cons_succ,flat8]
   rw [List.set_append_right _ _ (by show 8 ≤ _;omega),show (i + 1) * 8 + j - (cells8 s).length=i * 8 + j by show _ - 8=_;omega,ih i (by simpa using hi) (by simpa using hv)]
theorem info_sp:(Tryz.prog.info? 72).map (fun i=>(i.zero,i.size,i.bytes))=some (some (.agg #[.int .i64 0,.int .i64 0,.int .i64 0,.int .i64 0,.slice none 0 0,.int .i64 0,.slice none 0 0,.bool false]),8,96):=by kernel_rfl
def VRow (w:World) (A:Option Addr) (vs:List Sv):Prop:=0 < vs.length → ∃ b off,A=some ⟨b,off,none⟩∧b < w.heap.size∧∀ j u,(flat8 vs)[j]?=some u → w.cell? ⟨b,off + j,none⟩=some u
theorem VRow.later {w w':World} {A:Option Addr} {vs:List Sv} (h:VRow w A vs) (hb:Below w.heap.size w w'):VRow w' A vs:=fun hl=>by
 obtain ⟨b,off,e,hbb,hc⟩:=h hl
 exact ⟨b,off,e,Nat.lt_of_lt_of_le hbb hb.size,fun j u hj=>((bcell hb).1 _ _ hbb).trans (hc j u hj)⟩
theorem run_append_none8 {w:World} (ty:TypeId) (v:Value) (n c:Nat) (xs:List Value) (base:Nat) (hown:w.ownsRow base 72 8 v n xs) :
  (Builtin.append_ #[29,29] ty #[v,.slice none 0 c]).run Tryz.prog w=.ok v w:=by
 obtain ⟨i0,hi,hz0,hz1,hz2⟩:=info_parts info_sp
 obtain ⟨_,⟨rfl,rfl⟩ | ⟨g,cap,cur,rfl,_,hg,hc,hm,_,_⟩⟩:=hown
 ·simp [Builtin.append_,run_underlying Tryz.underlying29,sizeOf,typeInfo,hi,hz1,Builtin.lenOf,Builtin.firstCells,storeCells]
 ·have h1:¬ (9223372036854775807 < (n:Int)):=by unfold maxLen at hm;omega
  have hl:∀ (x:Addr),(loadCells x 0).run Tryz.prog w=.ok #[] w:=fun x=>by simpa using run_loadCells_list (P:=Tryz.prog) w x [] (by simp)
  simp [Builtin.append_,run_underlying Tryz.underlying29,sizeOf,typeInfo,hi,hz1,Builtin.lenOf,Builtin.firstCells,storeCells,hc,hl,h1]
theorem wp_append8 {w:World} {o:Oper} {a:Act} {K:Act → World → Prop} {Q:Exit → Act → World → Prop} (s x:Operand)
  (ho:o.op=.call { callee:=.builtin .append,args:=#[s,x],argTypes:=#[29,29] })
  (base:Nat) (A:Option Addr) (cap n:Nat) (xs:List Value) (hs:a.eval s=.slice A n cap) (hown:w.ownsRow base 72 8 (.slice A n cap) n xs)
  (Ao:Option Addr) (m c:Nat) (news:List Value) (hx:a.eval x=.slice Ao m c) (hl:news.length=m * 8) (hpos:0 < m → ∃ b off,Ao=some ⟨b,off,none⟩∧∀ j u,news[j]?=some u → w.cell? ⟨b,off + j,none⟩=some u) (h1:∀ u ∈ news,u.oneCell'=true)
  (hsm:n + m ≤ 100000) (hbase:base ≤ w.heap.size)
  (h:∀ A' cap' w',w'.ownsRow base 72 8 (.slice A' (n + m) cap') (n + m) (xs ++ news) → w.grownBy w' (A.map fun a=>a.block) → Below base w w' → (A'=A ∨ A'=some ⟨w.heap.size,0,none⟩) → K (a.put o.dst (.slice A' (n + m) cap')) w') :
  Oper.wp Tryz.prog o a w K Q:=by
 obtain ⟨i0,hi,hz0,hz1,hz2⟩:=info_parts info_sp
 have key:∃ A' cap' w',(Builtin.append_ #[29,29] o.type #[.slice A n cap,.slice Ao m c]).run Tryz.prog w=.ok (.slice A' (n + m) cap') w'∧w'.ownsRow base 72 8 (.slice A' (n + m) cap') (n + m) (xs ++ news)∧w.grownBy w' (A.map fun a=>a.block)∧Below base w w'∧(A'=A ∨ A'=some ⟨w.heap.size,0,none⟩):=by
  have hob:(Value.slice A n cap).ownBlock=A.map fun a=>a.block:=by cases A <;> rfl
  by_cases hm:0 < m
  ·obtain ⟨b,off,rfl,hc⟩:=hpos hm
   obtain ⟨g,cap',w',h2,h3,h4,h5,_⟩:=run_append_lies (P:=Tryz.prog) w 29 o.type base 72 i0 _ 8 96 Tryz.underlying29 hi hz0 hz1 hz2 rfl (by omega) (.slice A n cap) n xs hown ⟨b,off,none⟩ m c news hl (fun j u hj=>by rw [add_form];exact hc j u hj) h1 hm (by unfold maxLen;omega) (by omega) hbase _ rfl
   refine ⟨_,cap',w',h2,h3,by rw [← hob];exact h4,(Below.refl _ _).grown h4 hbase (fun k hk=>(hown.lt k hk).1),?_⟩
   rcases h5 with h5 | h5
   ·left
    obtain ⟨_,⟨e1,_⟩ | ⟨g',_,_,e1,_⟩⟩:=hown
    ·injection e1 with e1
     subst e1
     cases h5
    ·injection e1 with e1
     subst e1
     injection h5 with h5
     have h5':g'=g:=h5
     rw [h5']
   ·right
    rw [h5]
  ·obtain rfl:m=0:=by omega
   obtain rfl:news=[]:=List.eq_nil_of_length_eq_zero (by omega)
   cases Ao with
   | none=>exact ⟨A,cap,w,run_append_none8 _ _ n c xs base hown,by simpa using hown,⟨rfl,rfl,rfl,Nat.le_refl _,fun _ _ _=>rfl⟩,Below.refl _ _,.inl rfl⟩
   | some ad=>
    have hl:∀ (x:Addr),(loadCells x 0).run Tryz.prog w=.ok #[] w:=fun x=>by simpa using run_loadCells_list (P:=Tryz.prog) w x [] (by simp)
    have h2:(Builtin.append_ #[29,29] o.type #[.slice A n cap,.slice (some ad) 0 c]).run Tryz.prog w=.ok (.slice A n cap) w:=by
     obtain ⟨_,⟨e1,rfl⟩ | ⟨g,cap',cur,e1,_,hg,hc,hm,_,_⟩⟩:=id hown
     ·injection e1 with e1 _ e3
      subst e1 e3
      simp [Builtin.append_,run_underlying Tryz.underlying29,sizeOf,typeInfo,hi,hz1,Builtin.lenOf,Builtin.firstCells,storeCells,hl]
     ·injection e1 with e1 _ e3
      subst e1 e3
      have h1:¬ (9223372036854775807 < (n:Int)):=by unfold maxLen at hm;omega
      simp [Builtin.append_,run_underlying Tryz.underlying29,sizeOf,typeInfo,hi,hz1,Builtin.lenOf,Builtin.firstCells,storeCells,hc,hl,h1]
    exact ⟨A,cap,w,h2,by simpa using hown,⟨rfl,rfl,rfl,Nat.le_refl _,fun _ _ _=>rfl⟩,Below.refl _ _,.inl rfl⟩
 obtain ⟨A',cap',w',h2,h3,h5,h4,h6⟩:=key
 unfold Oper.wp execOp
 simp only [ho,resolve,invoke,builtin,Sem.run_bind,Sem.run_pure,Result.andThen_ok,List.map_toArray,List.map_cons,List.map_nil,hs,hx,h2]
 exact h A' cap' w' h3 h5 h4 h6
theorem wpList_append8 {w:World} {ops:Array Oper} {rest:List Oper} {o:Oper} {a:Act} {Q:Exit → Act → World → Prop} (hgd:o.guard=none) (s x:Operand)
  (ho:o.op=.call { callee:=.builtin .append,args:=#[s,x],argTypes:=#[29,29] })
  (base:Nat) (A:Option Addr) (cap n:Nat) (xs:List Value) (hs:a.eval s=.slice A n cap) (hown:w.ownsRow base 72 8 (.slice A n cap) n xs)
  (Ao:Option Addr) (m c:Nat) (news:List Value) (hx:a.eval x=.slice Ao m c) (hl:news.length=m * 8) (hpos:0 < m → ∃ b off,Ao=some ⟨b,off,none⟩∧∀ j u,news[j]?=some u → w.cell? ⟨b,off + j,none⟩=some u) (h1:∀ u ∈ news,u.oneCell'=true)
  (hsm:n + m ≤ 100000) (hbase:base ≤ w.heap.size)
  (h:∀ A' cap' w',w'.ownsRow base 72 8 (.slice A' (n + m) cap') (n + m) (xs ++ news) → w.grownBy w' (A.map fun a=>a.block) → Below base w w' → (A'=A ∨ A'=some ⟨w.heap.size,0,none⟩) → wpList Tryz.prog ops Q rest (a.put o.dst (.slice A' (n + m) cap')) w'):wpList Tryz.prog ops Q (o :: rest) a w:=
 wpList_plain hgd fun _ hK=>wp_append8 s x ho base A cap n xs hs hown Ao m c news hx hl hpos h1 hsm hbase fun A' cap' w' h2 h3 h4 h5=>hK _ _ (h A' cap' w' h2 h3 h4 h5)
theorem sgrow_any (n:Nat) (w:World) (hn:n ≤ 100000) :
  Calls Tryz.prog 292 #[.slice none 0 0,.int .i64 (n:Nat)] w fun e w'=>∃ A c,e=.returned (.slice A 0 c)∧w'.ownsRow w.heap.size 72 8 (.slice A 0 c) 0 []∧Below w.heap.size w w':=by
 obtain ⟨i0,hi,hz0,hz1,hz2⟩:=info_parts info_sp
 by_cases h0:n=0
 ·subst h0
  go_enter Tryz.func292,Tryz.ntmps292
  go_wp2
  go_ret
  exact ⟨none,0,rfl,World.ownsRow_nil _ _ _ _,bX⟩
 ·have hb96:Tryz.t72.bytes=96:=rfl
  obtain ⟨G,hG⟩:∃ G,G=grownCap w n 0 72:=⟨_,rfl⟩
  have hGn:n ≤ G:=by rw [hG];exact grownCap_ge w _ _ _
  have hGm:G ≤ maxLen:=by rw [hG];exact grownCap_le_maxLen w n 0 72 (by unfold maxLen;omega)
  have hp2:0 < n:=by omega
  have hfit:Builtin.nextslicecap n 0 * 96 ≤ 281474976710656:=growslice_fits (by omega) (by omega)
  have hb1:((n:Int) * (Tryz.t72.bytes:Int) ≤ 281474976710656):=by rw [hb96];omega
  have hb2:¬ (281474976710656 < Builtin.nextslicecap n 0 * Tryz.t72.bytes):=by rw [hb96];omega
  have hb3:¬ (281474976710656 < (n:Int) * (Tryz.t72.bytes:Int)):=by omega
  have HO:Hid (((w.alloc (.cells (Builtin.zeroCells #[.int .i64 0,.int .i64 0,.int .i64 0,.int .i64 0,.slice none 0 0,.int .i64 0,.slice none 0 0,.bool false] n ++ Builtin.zeroCells #[.int .i64 0,.int .i64 0,.int .i64 0,.int .i64 0,.slice none 0 0,.int .i64 0,.slice none 0 0,.bool false] (G - n)) 72)).drew).ownsRow w.heap.size 72 8 (.slice (some ⟨w.heap.size,0,none⟩) 0 G) 0 []):=Lib.hid ⟨by simp,.inr ⟨w.heap.size,G,_,rfl,Nat.le_refl _,heap_alloc_new w _,Nat.zero_le _,hGm,by simp only [Array.size_append,size_zeroCells];show n * 8 + (G - n) * 8=_;omega,by simp⟩⟩
  rw [hG] at HO
  clear hG hGn hGm hb96 hfit
  go_enter Tryz.func292,Tryz.ntmps292
  go_wp2
  go_ret
  exact ⟨_,_,rfl,HO.out,bX⟩
theorem Row.take {w:World} {B:Nat} {A:Option Addr} {ws:List Nat} (h:Row w B A ws) (k:Nat):Row w B A (ws.take k):=
 ⟨fun x hx=>h.words x (List.mem_of_mem_take hx),fun hl=>by
  rw [List.length_take] at hl
  obtain ⟨b,off,e,hb,hc⟩:=h.at_ (by omega)
  refine ⟨b,off,e,hb,fun i hi=>?_⟩
  rw [List.length_take] at hi
  rw [getD_take _ _ _ (by omega)]
  exact hc i (by omega)⟩
section
variable {w:World} {A:Option Addr} {us:List Nat} {L:Nat} (cap:Nat)
end
structure OwnsN (w:World) (B:Nat) (A:Option Addr) (n cap:Nat) (t:List Nat):Prop where
 len:t.length=n
 words:Words t
 row_:w.ownsRow B 32 1 (.slice A n cap) n (vals t)
theorem owns_laterN {w w':World} {B s n:Nat} {e:TypeId} {v:Value} {xs:List Value} (h:w.ownsRow B e s v n xs) (hb:Below w.heap.size w w'):w'.ownsRow B e s v n xs:=by
 refine World.ownsRow.kept (row:=none) h ⟨hb.os,hb.tape,hb.output,hb.size,fun k hk _=>hb.block k hk⟩ ?_
 cases hv:v.ownBlock
 ·exact .inl rfl
 ·exact .inr (by simp)
theorem owns_monoN {w:World} {B B' s n:Nat} {e:TypeId} {v:Value} {xs:List Value} (h:w.ownsRow B e s v n xs) (hB:B' ≤ B):w.ownsRow B' e s v n xs:=by
 obtain ⟨h0,h1 | ⟨g,c,cur,h1,h2,h3⟩⟩:=h
 ·exact ⟨h0,.inl h1⟩
 ·exact ⟨h0,.inr ⟨g,c,cur,h1,Nat.le_trans hB h2,h3⟩⟩
theorem owns_cap {w:World} {B t s n cap:Nat} {A:Option Addr} {xs:List Value} (h:w.ownsRow B t s (.slice A n cap) n xs):n ≤ cap∧(A=none → cap=0):=by
 obtain ⟨_,⟨h1,h2⟩ | ⟨g,cap',cur,e,_,_,hc,hm,_,_⟩⟩:=id h
 ·injection h1 with h1 h3 h4
  exact ⟨by omega,fun _=>h4⟩
 ·injection e with e1 e2 e3
  subst e3
  exact ⟨by omega,fun hn=>by rw [hn] at e1;cases e1⟩
theorem OwnsN.later {w w':World} {B n cap:Nat} {A:Option Addr} {t:List Nat} (h:OwnsN w B A n cap t) (hb:Below w.heap.size w w'):OwnsN w' B A n cap t:=⟨h.len,h.words,owns_laterN h.row_ hb⟩
theorem OwnsN.mono {w:World} {B B' n cap:Nat} {A:Option Addr} {t:List Nat} (h:OwnsN w B A n cap t) (hB:B' ≤ B):OwnsN w B' A n cap t:=⟨h.len,h.words,owns_monoN h.row_ hB⟩
theorem OwnsN.own {w:World} {B n cap:Nat} {A:Option Addr} {t:List Nat} (h:OwnsN w B A n cap t):Own w B A t:=
 ⟨h.words,fun hl=>by
  have hn:=h.len
  have hr:=h.row_
  obtain ⟨_,⟨h1,h2⟩ | ⟨g,cap',cur,e,_⟩⟩:=id hr
  ·omega
  ·injection e with e1 e2 e3
   subst e1
   obtain ⟨l1,l2⟩:=hr.lt g rfl
   refine ⟨g,rfl,l1,l2,fun i hi=>⟨?_,hr.frozenAt i⟩⟩
   rw [hr.cellAt i (by omega),vals_at t i hi]⟩
theorem OwnsN.row {w:World} {B n cap:Nat} {A:Option Addr} {t:List Nat} (h:OwnsN w B A n cap t):Row w w.heap.size A t:=h.own.row
theorem OwnsN.nil (w:World) (B:Nat):OwnsN w B none 0 0 []:=⟨rfl,fun x hx=>by simp at hx,World.ownsRow_nil _ _ _ _⟩
theorem own_emptyN (w w':World) (B:Nat) (hB:B ≤ w.heap.size) (h:w'.heap=(w.alloc (.cells #[] 32)).heap):w'.ownsRow B 32 1 (.slice (some ⟨w.heap.size,0,none⟩) 0 0) 0 []:=
 ⟨rfl,.inr ⟨w.heap.size,0,#[],rfl,hB,by rw [h];exact heap_alloc_new _ _,Nat.le_refl _,Nat.zero_le _,rfl,rfl⟩⟩
def CopiedN (w:World) (t:List Nat) (e:Ending) (w':World):Prop:=∃ A cap,e=.returned (.slice A t.length cap)∧OwnsN w' w.heap.size A t.length cap t∧Below w.heap.size w w'
section
variable {w:World} {A:Option Addr} {t:List Nat} (cap:Nat)
theorem wclone_any (hr:Row w w.heap.size A t) (hl:t.length ≤ 17592186044416) (hn:A=none → cap=0):Calls Tryz.prog 205 #[.slice A t.length cap] w fun e w'=>CopiedN w t e w':=by
 unfold CopiedN
 have q22:∀ (w:World) (a:Option Addr) (n c n' c':Nat),(binOp .eql 22 (.slice a n c) (.slice none n' c')).run Tryz.prog w=.ok (.bool a.isNone) w:=fun w a n c n' c'=>Lib.run_eql_slice_nil w _ _ a n c n' c' Tryz.underlying22
 obtain ⟨i0,hi,hz0,hz1,hz2⟩:=info_parts info_u64
 by_cases h0:0 < t.length
 ·obtain ⟨b,off,rfl,hbb,hc⟩:=hr.at_ h0
  have hsrc:=fun j v hv=>hr.src2 (Below.refl _ _) (b:=b) (off:=off) j v hv
  have hlt:b < w.heap.size:=hbb
  go_enter Tryz.func205,Tryz.ntmps205
  go_wp2_with (at_builtin;refine wpList_append_lies _ ?_ (.tmp 5) (.tmp 6) 22 ?_ w.heap.size 32 i0 _ 1 8 Tryz.underlying22 hi hz0 hz1 hz2 rfl (by omega) (.slice (some ⟨w.heap.size,0,none⟩) 0 0) 0 [] ?_ (own_emptyN w _ _ (Nat.le_refl _) rfl) ⟨b,off,none⟩ t.length cap (vals t) ?_ (by rw [length_vals,Nat.mul_one]) ?_ (vals_one t) h0 (by unfold maxLen;omega) (by omega) (by simp) _ rfl ?_;rfl;rfl;rfl;rfl;(exact fun j u hj=>by rw [add_form];exact (World.cell?_alloc_lt _ _ ⟨_,_,_⟩ hlt).trans (by have:=hsrc j u hj;rwa [add_form] at this));intro g cap2 w2 hown2 hg2 hat2 hlt2;simp only [Nat.zero_add,List.nil_append] at hown2;have hb_w2:Below w.heap.size _ w2:=(Below.refl _ _).grown hg2 lX (fun k hk=>(by simp [Value.ownBlock] at hk;omega)))
  go_ret
  exact ⟨_,cap2,rfl,⟨rfl,hr.words,hown2⟩,bX⟩
 ·obtain rfl:t=[]:=List.eq_nil_of_length_eq_zero (by omega)
  cases A with
  | none=>
   obtain rfl:=hn rfl
   simp only [List.length_nil]
   go_enter Tryz.func205,Tryz.ntmps205
   go_wp2
   go_ret
   exact ⟨none,0,rfl,OwnsN.nil _ _,bX⟩
  | some a=>
   have ho:=own_emptyN w (w.alloc (.cells #[] 32)) w.heap.size (Nat.le_refl _) rfl
   simp only [List.length_nil]
   go_enter Tryz.func205,Tryz.ntmps205
   go_wp2
   go_ret
   exact ⟨_,0,rfl,⟨rfl,hr.words,ho⟩,bX⟩
end
section
variable {w:World} {A C:Option Addr} {t u:List Nat} (cap cc:Nat)
end
def PRow (w:World) (P:Option Addr) (ps:List (List Sv)):Prop:=0 < ps.length → ∃ g,P=some ⟨g,0,none⟩∧g < w.heap.size∧∀ i,i < ps.length → ∃ A c,w.cell? ⟨g,i,none⟩=some (.slice A (ps.getD i []).length c)∧VRow w A (ps.getD i [])
theorem PRow.later {w w':World} {P:Option Addr} {ps:List (List Sv)} (h:PRow w P ps) (hb:Below w.heap.size w w'):PRow w' P ps:=fun hl=>by
 obtain ⟨g,e,hg,hc⟩:=h hl
 refine ⟨g,e,Nat.lt_of_lt_of_le hg hb.size,fun i hi=>?_⟩
 obtain ⟨A,c,h1,h2⟩:=hc i hi
 exact ⟨A,c,((bcell hb).1 _ _ hg).trans h1,h2.later hb⟩
theorem flatten_next (ps:List (List Sv)) (k:Nat) (hk:k < ps.length):(ps.take (k + 1)).flatten=(ps.take k).flatten ++ ps.getD k []:=by
 rw [List.take_succ_eq_append_getElem hk,List.flatten_append,List.getD_eq_getElem?_getD,List.getElem?_eq_getElem hk]
 simp
theorem flatten_le (ps:List (List Sv)) (k:Nat):(ps.take k).flatten.length ≤ ps.flatten.length:=by
 have h:ps.flatten=(ps.take k).flatten ++ (ps.drop k).flatten:=by rw [← List.flatten_append,List.take_append_drop]
 rw [h,List.length_append]
 omega
set_option maxHeartbeats 4000000 in
theorem sconcat_any {w:World} {P:Option Addr} {ps:List (List Sv)} (cp:Nat) (hP:PRow w P ps) (hn:ps.length ≤ 1000) (hf:ps.flatten.length ≤ 1000) (n:Nat) (hnn:ps.flatten.length=n) :
  Calls Tryz.prog 282 #[.slice P ps.length cp] w fun e w'=>∃ A c,e=.returned (.slice A n c)∧w'.ownsRow w.heap.size 72 8 (.slice A n c) n (flat8 ps.flatten)∧Below w.heap.size w w':=by
 have HNN:=Lib.hid hnn
 clear hnn
 go_enter Tryz.func282,Tryz.ntmps282
 go_wp2_with fail
 go_loopw [3,11] (fun ss ii wr=>∃ k:Nat,ii=.int .i64 (k:Nat)∧k ≤ ps.length∧∃ m:Nat,Hid ((ps.take k).flatten.length=m)∧m ≤ 1000∧ss=.int .i64 (m:Nat)∧w.heap.size ≤ wr.heap.size∧Below w.heap.size w wr) (fun _ ii _=>ps.length - (intOf ii).toNat)
 case atStart=>exact ⟨0,rfl,Nat.zero_le _,0,Lib.hid rfl,by omega,rfl,lX,bX⟩
 case round=>
  obtain ⟨k,rfl,hk,m,hm,hm2,rfl,hsz,hb_wr⟩:=hrel
  have hsr:=hb_wr.size
  by_cases hlt:k < ps.length
  ·obtain ⟨g,hPe,hg,hc⟩:=(hP.later hb_wr) (by omega)
   obtain ⟨A,c,h1,h2⟩:=hc k hlt
   have hnx:=flatten_next ps k hlt
   have hle:=flatten_le ps (k + 1)
   rw [hnx,List.length_append,hm.out] at hle
   subst hPe
   have i1:(k:Int) < (ps.length:Int):=by omega
   have i2:(0:Int) ≤ (k:Int):=by omega
   have HX:Hid ((ps.take (k + 1)).flatten.length=m + (ps.getD k []).length):=Lib.hid (by rw [hnx,List.length_append,hm.out])
   clear hc h2 hnx
   generalize (ps.getD k []).length=q at *
   have hd:decide (((m:Int) + (q:Int)) < 0)=false:=by simp;omega
   go_wp2
   go_roundw
   case rel=>exact ⟨k + 1,by go_num,by omega,m + q,HX,by omega,by go_num,lX,bX⟩
   case measure=>simp [intOf];omega
  ·obtain rfl:k=ps.length:=by omega
   have hall:ps.flatten.length=m:=by rw [← hm.out,List.take_length]
   have HALL:=Lib.hid hall
   clear hall
   go_wp2_with fail
   go_at_call 292
   refine (sgrow_any m _ (by omega)).mono ?_
   rintro e w1 ⟨A1,c1,rfl,o1,hb_w1⟩
   have hs_w1:=hb_w1.size
   have b1:Below w.heap.size w w1:=bX
   have o1':=owns_monoN (B':=w.heap.size) o1 hsz
   clear hm
   go_wp2_with fail
   clear hb_wr hsz hsr hlt hk hb_w1 o1
   generalize wr=wA at *
   go_loopw [6,27] (fun c ii wr=>∃ k:Nat,ii=.int .i64 (k:Nat)∧k ≤ ps.length∧∃ (m:Nat) (Ac:Option Addr) (capc:Nat),Hid ((ps.take k).flatten.length=m)∧c=.slice Ac m capc∧wr.ownsRow w.heap.size 72 8 (.slice Ac m capc) m (flat8 (ps.take k).flatten)∧w.heap.size ≤ wr.heap.size∧Below w.heap.size w wr) (fun _ ii _=>ps.length - (intOf ii).toNat)
   case atStart=>exact ⟨0,rfl,Nat.zero_le _,0,A1,c1,Lib.hid rfl,rfl,by simp only [List.take_zero,List.flatten_nil];exact o1',b1.size,b1⟩
   case round=>
    clear o1' b1 hs_w1
    obtain ⟨k,rfl,hk,m,Ac,capc,hm,rfl,oC,hsz,hb_wr⟩:=hrel
    have hsr:=hb_wr.size
    by_cases hlt:k < ps.length
    ·obtain ⟨g,hPe,hg,hc⟩:=(hP.later hb_wr) (by omega)
     obtain ⟨A,c,h1,h2⟩:=hc k hlt
     have hnx:=flatten_next ps k hlt
     have hle:=flatten_le ps (k + 1)
     rw [hnx,List.length_append,hm.out] at hle
     subst hPe
     have i1:(k:Int) < (ps.length:Int):=by omega
     have i2:(0:Int) ≤ (k:Int):=by omega
     have HX:Hid ((ps.take (k + 1)).flatten.length=m + (ps.getD k []).length):=Lib.hid (by rw [hnx,List.length_append,hm.out])
     have HY:Hid (flat8 (ps.take (k + 1)).flatten=flat8 (ps.take k).flatten ++ flat8 (ps.getD k [])):=Lib.hid (by rw [hnx,flat8_app])
     have hlen:=flat8_len (ps.getD k [])
     have hone:=flat8_one (ps.getD k [])
     unfold VRow at h2
     have h2:0 < (ps.getD k []).length → ∃ b off,A=some ⟨b,off,none⟩∧∀ j u,(flat8 (ps.getD k []))[j]?=some u → wr.cell? ⟨b,off + j,none⟩=some u:=fun hq=>by
      obtain ⟨b,off,e,_,hc⟩:=h2 hq
      exact ⟨b,off,e,hc⟩
     clear hc hnx
     generalize flat8 (ps.getD k [])=news at *
     generalize flat8 (ps.take k).flatten=xs at *
     generalize (ps.getD k []).length=q at *
     go_wp2_with (at_builtin;refine wpList_append8 ?_ (.tmp 31) (.tmp 32) ?_ w.heap.size Ac capc m xs ?_ oC A q c news ?_ hlen h2 hone (by omega) hsz ?_;rfl;rfl;rfl;rfl;intro A7 cap7 w7 hown7 hg7 hb_w7 hat7;have hs7:=hb_w7.size)
     go_roundw
     case rel=>exact ⟨k + 1,by go_num,by omega,m + q,A7,cap7,HX,rfl,by rw [HY.out];exact hown7,Nat.le_trans hsz hg7.size,hb_wr.trans hb_w7⟩
     case measure=>simp [intOf];omega
    ·obtain rfl:k=ps.length:=by omega
     rw [List.take_length] at oC hm
     have hh:m=n:=hm.out.symm.trans HNN.out
     subst hh
     go_wp2
     go_ret
     exact ⟨Ac,capc,rfl,oC,hb_wr⟩
structure OwnsS (w:World) (B:Nat) (A:Option Addr) (n cap:Nat) (vs:List Sv):Prop where
 len:vs.length=n
 row_:w.ownsRow B 72 8 (.slice A n cap) n (flat8 vs)
 words:∀ v ∈ vs,Own w B v.A v.d.aw∧Own w B v.M v.d.mw
 apart:∀ v ∈ vs,∀ g,A=some ⟨g,0,none⟩ → v.A ≠ some ⟨g,0,none⟩∧v.M ≠ some ⟨g,0,none⟩
def sdsOf (vs:List Sv):List Sd:=vs.map fun v=>v.d
theorem nth_sds (vs:List Sv) (i:Nat) (hi:i < vs.length):nth (sdsOf vs) i=vs[i].d:=by
 unfold nth sdsOf
 rw [List.getD_eq_getElem?_getD,List.getElem?_map,List.getElem?_eq_getElem hi]
 rfl
theorem flat8_cell {w:World} {B n cap g:Nat} {vs:List Sv} (h:w.ownsRow B 72 8 (.slice (some ⟨g,0,none⟩) n cap) n (flat8 vs)) (hn:vs.length=n) (i:Nat) (hi:i < n) (j:Nat) (hj:j < 8) (u:Value) (hu:(cells8 (vs[i]'(by omega)))[j]?=some u):w.cell? ⟨g,i * 8 + j,none⟩=some u:=by
 rw [h.cellAt (i * 8 + j) (by omega),flat8_at vs i j hj,List.getElem?_eq_getElem (by omega)]
 exact hu
theorem sp8_of_owns {w:World} {B n cap g:Nat} {vs:List Sv} (h:w.ownsRow B 72 8 (.slice (some ⟨g,0,none⟩) n cap) n (flat8 vs)) (hn:vs.length=n) (i:Nat) (hi:i < n):Sp8 w g (0 + i * 8) (vs[i]'(by omega)).d (vs[i]'(by omega)).A (vs[i]'(by omega)).ca (vs[i]'(by omega)).M (vs[i]'(by omega)).cm:=by
 rw [Nat.zero_add]
 exact ⟨by have:=flat8_cell h hn i hi 0 (by omega) _ rfl;rwa [Nat.add_zero] at this,flat8_cell h hn i hi 1 (by omega) _ rfl,flat8_cell h hn i hi 2 (by omega) _ rfl,flat8_cell h hn i hi 3 (by omega) _ rfl,flat8_cell h hn i hi 4 (by omega) _ rfl,flat8_cell h hn i hi 5 (by omega) _ rfl,flat8_cell h hn i hi 6 (by omega) _ rfl,flat8_cell h hn i hi 7 (by omega) _ rfl⟩
theorem OwnsS.srow {w:World} {B n cap:Nat} {A:Option Addr} {vs:List Sv} (h:OwnsS w B A n cap vs):SRow w w.heap.size A (sdsOf vs):=
 ⟨fun hl=>by
  have hn:0 < n:=by rw [← h.len];simpa [sdsOf] using hl
  obtain ⟨_,⟨h1,h2⟩ | ⟨g,cap',cur,e,_⟩⟩:=id h.row_
  ·omega
  ·injection e with e1 _ e3
   subst e1
   have hr:=h.row_
   refine ⟨g,0,rfl,(hr.lt g rfl).2,fun i hi=>?_⟩
   have hi':i < vs.length:=by simpa [sdsOf] using hi
   have hw:=h.words vs[i] (List.getElem_mem hi')
   rw [nth_sds vs i hi']
   exact ⟨vs[i].A,vs[i].ca,vs[i].M,vs[i].cm,sp8_of_owns hr h.len i (by rw [← h.len];exact hi'),hw.1.row,hw.2.row⟩⟩
theorem OwnsS.later {w w':World} {B n cap:Nat} {A:Option Addr} {vs:List Sv} (h:OwnsS w B A n cap vs) (hb:Below w.heap.size w w'):OwnsS w' B A n cap vs:=
 ⟨h.len,owns_laterN h.row_ hb,fun v hv=>⟨(h.words v hv).1.later hb,(h.words v hv).2.later hb⟩,h.apart⟩
theorem OwnsS.mono {w:World} {B B' n cap:Nat} {A:Option Addr} {vs:List Sv} (h:OwnsS w B A n cap vs) (hB:B' ≤ B):OwnsS w B' A n cap vs:=
 ⟨h.len,owns_monoN h.row_ hB,fun v hv=>⟨(h.words v hv).1.mono hB,(h.words v hv).2.mono hB⟩,h.apart⟩
theorem OwnsS.nil (w:World) (B:Nat):OwnsS w B none 0 0 []:=⟨rfl,World.ownsRow_nil _ _ _ _,fun v hv=>(by cases hv),fun v hv=>(by cases hv)⟩
theorem own_ne {w:World} {g:Nat} {A:Option Addr} {ws:List Nat} (h:Own w (g + 1) A ws) (hl:0 < ws.length):A ≠ some ⟨g,0,none⟩:=by
 obtain ⟨q,e,h1,_⟩:=h.at_ hl
 rw [e]
 intro e2
 injection e2 with e2
 injection e2 with e2
 omega
theorem wclone1 {w:World} {A:Option Addr} {c x:Nat} (hr:Row w w.heap.size A [x]):Calls Tryz.prog 205 #[.slice A 1 c] w fun e w'=>∃ A' c',e=.returned (.slice A' 1 c')∧OwnsN w' w.heap.size A' 1 c' [x]∧Below w.heap.size w w':=by
 obtain ⟨b,off,rfl,_⟩:=hr.at_ (by simp)
 exact wclone_any (t:=[x]) c hr (by simp) (fun e=>(by cases e))
theorem len_one {l:List Nat} (h:l.length=1):∃ x,l=[x]:=by
 match l,h with
 | [x],_=>exact ⟨x,rfl⟩
theorem getElem_set8 (vs:List Sv) (k j:Nat) (v:Sv) (hj:j < (vs.set k v).length):(vs.set k v)[j]=if k=j then v else vs[j]'(by simpa using hj):=List.getElem_set hj
structure CopK (w:World) (B g n c:Nat) (vs0 vs:List Sv) (k:Nat):Prop where
 len:vs.length=n
 same:sdsOf vs=sdsOf vs0
 rest:∀ j (hj:j < vs.length),k ≤ j → vs0[j]?=some vs[j]
 row_:w.ownsRow B 72 8 (.slice (some ⟨g,0,none⟩) n c) n (flat8 vs)
 words:∀ j (hj:j < vs.length),j < k → Own w (g + 1) vs[j].A vs[j].d.aw∧Own w (g + 1) vs[j].M vs[j].d.mw
theorem CopK.next {w6:World} {B g n c k:Nat} {vs0 vs:List Sv} (len:vs.length=n) (same:sdsOf vs=sdsOf vs0) (rest:∀ j (hj:j < vs.length),k ≤ j → vs0[j]?=some vs[j]) (hk:k < n) (v:Sv) (hd:v.d=(vs[k]'(by omega)).d)
  (row_:w6.ownsRow B 72 8 (.slice (some ⟨g,0,none⟩) n c) n (flat8 (vs.set k v))) (words:∀ j (hj:j < vs.length),j < k → Own w6 (g + 1) vs[j].A vs[j].d.aw∧Own w6 (g + 1) vs[j].M vs[j].d.mw) (h1:Own w6 (g + 1) v.A v.d.aw) (h2:Own w6 (g + 1) v.M v.d.mw):CopK w6 B g n c vs0 (vs.set k v) (k + 1):=by
 refine ⟨by rw [List.length_set];exact len,?_,fun j hj hkj=>?_,row_,fun j hj hjk=>?_⟩
 ·rw [← same]
  unfold sdsOf
  rw [List.map_set,hd]
  apply List.ext_getElem (by simp)
  intro i h3 h4
  rw [List.getElem_set]
  split
  ·rename_i e;subst e;simp
  ·rfl
 ·rw [getElem_set8,if_neg (by omega)]
  exact rest j (by simpa using hj) (by omega)
 ·rw [getElem_set8]
  by_cases e:k=j
  ·rw [if_pos e]
   exact ⟨h1,h2⟩
  ·rw [if_neg e]
   exact words j (by simpa using hj) (by omega)
theorem CopK.end_ {w:World} {B g n c:Nat} {vs0 vs:List Sv} (h:CopK w B g n c vs0 vs n) (hB:B ≤ g) (h1:∀ v ∈ vs0,v.d.aw.length=1∧v.d.mw.length=1):OwnsS w B (some ⟨g,0,none⟩) n c vs:=by
 have hw:∀ v ∈ vs,Own w (g + 1) v.A v.d.aw∧Own w (g + 1) v.M v.d.mw:=fun v hv=>by
  obtain ⟨j,hj,rfl⟩:=List.getElem_of_mem hv
  exact h.words j hj (by rw [← h.len];exact hj)
 have hl:∀ v ∈ vs,v.d.aw.length=1∧v.d.mw.length=1:=fun v hv=>by
  have:v.d ∈ sdsOf vs:=List.mem_map.2 ⟨v,hv,rfl⟩
  rw [h.same] at this
  obtain ⟨u,hu,e⟩:=List.mem_map.1 this
  have:=h1 u hu
  have e:u.d=v.d:=e
  rwa [e] at this
 refine ⟨h.len,h.row_,fun v hv=>⟨(hw v hv).1.mono (by omega),(hw v hv).2.mono (by omega)⟩,fun v hv g' e=>?_⟩
 injection e with e
 injection e with e
 subst e
 exact ⟨own_ne (hw v hv).1 (by rw [(hl v hv).1];omega),own_ne (hw v hv).2 (by rw [(hl v hv).2];omega)⟩
set_option maxHeartbeats 8000000 in
theorem scopies_any {w:World} {P:Option Addr} {ps:List (List Sv)} (cp:Nat) (hP:PRow w P ps) (hn:ps.length ≤ 1000) (hf:ps.flatten.length ≤ 1000)
  (hw:∀ v ∈ ps.flatten,Row w w.heap.size v.A v.d.aw∧Row w w.heap.size v.M v.d.mw∧v.d.aw.length=1∧v.d.mw.length=1) (n:Nat) (hnn:ps.flatten.length=n) (np:Nat) (hnp:ps.length=np) :
  Calls Tryz.prog 261 #[.slice P np cp] w fun e w'=>∃ A c vs,e=.returned (.slice A n c)∧sdsOf vs=sdsOf ps.flatten∧OwnsS w' w.heap.size A n c vs∧Below w.heap.size w w':=by
 subst hnp
 have HC:=Lib.hid fun (w:World) hP=>sconcat_any (w:=w) (P:=P) (ps:=ps) cp hP hn hf n hnn
 have HW:=Lib.hid hw
 have HN:=Lib.hid hnn
 have hn1:n ≤ 1000:=by omega
 generalize ps.flatten=vs0 at *
 clear hw hnn hf
 go_enter Tryz.func261,Tryz.ntmps261
 go_wp2_with fail
 go_at_call 282
 refine (HC.out _ (hP.later bX)).mono ?_
 rintro e w1 ⟨A1,c1,rfl,o1,hb_w1⟩
 obtain ⟨hc_w1,hf_w1⟩:=bcell hb_w1;have hs_w1:=hb_w1.size;(try simp only [zZ] at hs_w1)
 have b1:Below w.heap.size w w1:=bX
 clear hc_w1 hf_w1
 by_cases h0:n=0
 ·subst h0
  have hv:vs0=[]:=List.eq_nil_of_length_eq_zero HN.out
  subst hv
  go_wp2_with fail
  go_loopw [9] (fun ii wr=>ii=.int .i64 0∧Below w.heap.size w wr∧OwnsS wr w.heap.size A1 0 c1 []) (fun ii _=>0 - (intOf ii).toNat)
  case atStart=>exact ⟨rfl,b1,⟨rfl,o1,fun v hv=>(by cases hv),fun v hv=>(by cases hv)⟩⟩
  case round=>
   obtain ⟨rfl,hb_wr,hO⟩:=hrel
   go_wp2
   go_ret
   exact ⟨A1,c1,[],rfl,rfl,hO,hb_wr⟩
 ·obtain ⟨_,⟨h1,h2⟩ | ⟨g,cap',cur,e,hgB,_⟩⟩:=id o1
  ·exact absurd h2 h0
  ·injection e with e1 _ e3
   subst e1 e3
   have hgl:g < w1.heap.size:=(o1.lt g rfl).2
   have HB0:=Lib.hid hgB
   go_wp2_with fail
   go_loopw [9] (fun ii wr=>∃ k:Nat,ii=.int .i64 (k:Nat)∧k ≤ n∧∃ vs:List Sv,CopK wr w.heap.size g n c1 vs0 vs k∧g < wr.heap.size∧w.heap.size ≤ wr.heap.size∧Below w.heap.size w wr) (fun ii _=>n - (intOf ii).toNat)
   case atStart=>exact ⟨0,rfl,Nat.zero_le _,vs0,⟨HN.out,rfl,fun j hj _=>List.getElem?_eq_getElem hj,o1,fun j hj hj0=>by omega⟩,hgl,b1.size,b1⟩
   case round=>
    clear o1 b1 hgl
    obtain ⟨k,rfl,hk,vs,hK,hgl,hsz,hb_wr⟩:=hrel
    have hsr:=hb_wr.size
    by_cases hlt:k < n
    ·have hkl:k < vs.length:=by rw [hK.len];exact hlt
     have hrest:=hK.rest k hkl (Nat.le_refl _)
     have hmem:vs[k] ∈ vs0:=List.mem_of_getElem? hrest
     obtain ⟨ra,rm,la,lm⟩:=HW.out _ hmem
     have c8:=sp8_of_owns hK.row_ hK.len k hlt
     obtain ⟨xa,hxa⟩:=len_one la
     obtain ⟨xm,hxm⟩:=len_one lm
     have q4:=c8.c4
     have q6:=c8.c6
     rw [la,Nat.zero_add] at q4
     rw [lm,Nat.zero_add] at q6
     rw [hxa] at ra
     rw [hxm] at rm
     have fz:=fun i=>hK.row_.frozenAt i
     have f4:=fz (k * 8 + 4)
     have f6:=fz (k * 8 + 6)
     have HK:=Lib.hid hK
     have HV:∃ v,Hid (vs[k]=v):=⟨_,rfl⟩
     obtain ⟨v,HV⟩:=HV
     rw [HV.out] at ra rm q4 q6 hxa hxm
     have HXA:=Lib.hid hxa
     have HXM:=Lib.hid hxm
     have ra:=ra.later hb_wr
     clear hK fz c8 hmem hrest la lm hxa hxm
     obtain ⟨d,A,ca,M,cm⟩:=v
     simp only at *
     have i1:(k:Int) < (n:Int):=by omega
     have i2:(0:Int) ≤ (k:Int):=by omega
     go_wp2_with fail
     go_at_call 205
     refine (wclone1 ra).mono ?_
     rintro e w5 ⟨A5,c5,rfl,o5,hb_w5⟩
     have hs5:=hb_w5.size
     have p4:w5.cell? ⟨g,k * 8 + 4,none⟩=some (.slice A 1 ca):=(hb_w5.cell (p:=⟨g,k * 8 + 4,none⟩) hgl).trans q4
     have g4:w5.frozen? ⟨g,k * 8 + 4,none⟩=false:=((bcell hb_w5).2 _ _ hgl).trans f4
     have p6:w5.cell? ⟨g,k * 8 + 6,none⟩=some (.slice M 1 cm):=(hb_w5.cell (p:=⟨g,k * 8 + 6,none⟩) hgl).trans q6
     have g6:w5.frozen? ⟨g,k * 8 + 6,none⟩=false:=((bcell hb_w5).2 _ _ hgl).trans f6
     have b5:Below w.heap.size w w5:=hb_wr.trans (hb_w5.mono hsz)
     have ro5:=((owns_laterN HK.out.row_ hb_w5).stored (k * 8 + 4) (.slice A5 1 c5)).1
     have wo5:∀ j (hj:j < vs.length),j < k → Own (w5.setCell ⟨g,k * 8 + 4,none⟩ (.slice A5 1 c5)) (g + 1) vs[j].A vs[j].d.aw∧Own (w5.setCell ⟨g,k * 8 + 4,none⟩ (.slice A5 1 c5)) (g + 1) vs[j].M vs[j].d.mw:=fun j hj hjk=>
      ⟨((HK.out.words j hj hjk).1.later hb_w5).far (.inl (Nat.lt_succ_self g)) _,((HK.out.words j hj hjk).2.later hb_w5).far (.inl (Nat.lt_succ_self g)) _⟩
     have o5':Own (w5.setCell ⟨g,k * 8 + 4,none⟩ (.slice A5 1 c5)) (g + 1) A5 [xa]:=(o5.own.mono (by omega)).far (.inl (Nat.lt_succ_self g)) _
     have b6:Below w.heap.size w (w5.setCell ⟨g,k * 8 + 4,none⟩ (.slice A5 1 c5)):=b5.setCell (p:=⟨g,k * 8 + 4,none⟩) HB0.out _
     have rm6:=rm.later b6
     have p6':(w5.setCell ⟨g,k * 8 + 4,none⟩ (.slice A5 1 c5)).cell? ⟨g,k * 8 + 6,none⟩=some (.slice M 1 cm):=(cO _ _ _ _ (by intro e;injection e;omega)).trans p6
     have g6':(w5.setCell ⟨g,k * 8 + 4,none⟩ (.slice A5 1 c5)).frozen? ⟨g,k * 8 + 6,none⟩=false:=by rw [World.frozen?_setCell];exact g6
     have hg5:g < (w5.setCell ⟨g,k * 8 + 4,none⟩ (.slice A5 1 c5)).heap.size:=by rw [World.size_setCell];omega
     have hz5:w.heap.size ≤ (w5.setCell ⟨g,k * 8 + 4,none⟩ (.slice A5 1 c5)).heap.size:=by rw [World.size_setCell];omega
     clear q4 q6 f4 f6 ra rm o5 p6 g6 b5 hb_wr
     go_wp2_with fail
     generalize w5.setCell ⟨g,k * 8 + 4,none⟩ (.slice A5 1 c5)=wS at *
     go_at_call 205
     refine (wclone1 rm6).mono ?_
     rintro e w7 ⟨A7,c7,rfl,o7,hb_w7⟩
     have hs7:=hb_w7.size
     have p7:w7.cell? ⟨g,k * 8 + 6,none⟩=some (.slice M 1 cm):=(hb_w7.cell (p:=⟨g,k * 8 + 6,none⟩) hg5).trans p6'
     have g7:w7.frozen? ⟨g,k * 8 + 6,none⟩=false:=((bcell hb_w7).2 _ _ hg5).trans g6'
     have b7:Below w.heap.size w w7:=b6.trans (hb_w7.mono hz5)
     have ro7:=((owns_laterN ro5 hb_w7).stored (k * 8 + 6) (.slice A7 1 c7)).1
     have hset:((flat8 vs).set (k * 8 + 4) (.slice A5 1 c5)).set (k * 8 + 6) (.slice A7 1 c7)=flat8 (vs.set k ⟨d,A5,c5,A7,c7⟩):=by
      have e1:=flat8_set vs k 4 ⟨d,A5,c5,M,cm⟩ (.slice A5 1 c5) hkl (by omega) (by rw [HV.out];simp [cells8,HXA.out])
      have e2:=flat8_set (vs.set k ⟨d,A5,c5,M,cm⟩) k 6 ⟨d,A5,c5,A7,c7⟩ (.slice A7 1 c7) (by rw [List.length_set];exact hkl) (by omega) (by rw [List.getElem_set_self];simp [cells8,HXM.out])
      rw [e1,e2,List.set_set]
     rw [hset] at ro7
     have HNX:Hid (CopK (w7.setCell ⟨g,k * 8 + 6,none⟩ (.slice A7 1 c7)) w.heap.size g n c1 vs0 (vs.set k ⟨d,A5,c5,A7,c7⟩) (k + 1)):=Lib.hid (CopK.next HK.out.len HK.out.same HK.out.rest hlt ⟨d,A5,c5,A7,c7⟩ (by rw [HV.out]) ro7
      (fun j hj hjk=>⟨((wo5 j hj hjk).1.later hb_w7).far (.inl (Nat.lt_succ_self g)) _,((wo5 j hj hjk).2.later hb_w7).far (.inl (Nat.lt_succ_self g)) _⟩)
      (by show Own _ _ A5 d.aw;rw [HXA.out];exact (o5'.later hb_w7).far (.inl (Nat.lt_succ_self g)) _) (by show Own _ _ A7 d.mw;rw [HXM.out];exact (o7.own.mono (by omega)).far (.inl (Nat.lt_succ_self g)) _))
     have b8:Below w.heap.size w (w7.setCell ⟨g,k * 8 + 6,none⟩ (.slice A7 1 c7)):=b7.setCell (p:=⟨g,k * 8 + 6,none⟩) HB0.out _
     clear wo5 o5' ro5 ro7 hset o7 b6 b7 HK p6' g6'
     go_wp2
     go_roundw
     case rel=>exact ⟨k + 1,by go_num,by omega,_,HNX.out,by rw [World.size_setCell];omega,by rw [World.size_setCell];omega,b8⟩
     case measure=>simp [intOf];omega
    ·obtain rfl:k=n:=by omega
     have HE:=Lib.hid (hK.end_ HB0.out (fun v hv=>⟨(HW.out v hv).2.2.1,(HW.out v hv).2.2.2⟩))
     have HS:=Lib.hid hK.same
     clear hK
     go_wp2
     go_ret
     exact ⟨_,c1,vs,rfl,HS.out,HE.out,hb_wr⟩
end Go.Proofs.YtafpkaifaccehaaGreatDoor
