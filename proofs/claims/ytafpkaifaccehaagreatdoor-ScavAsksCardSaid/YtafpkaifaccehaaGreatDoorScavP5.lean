/- Parts of the proof. -/
import Derived.Test.YtafpkaifaccehaaGreatDoorScavP4
import Derived.LoopTactic
set_option linter.unusedVariables false
set_option linter.unusedSimpArgs false
namespace Go.Proofs.YtafpkaifaccehaaGreatDoor
open Go.RowKit
theorem is_core (i n:Int) (b off len cap x:Nat) (w:World) (h0:0 ≤ i) (h1:i < 64 * len) (hl:len ≤ 64) (hb:b < w.heap.size)
  (hw:w.cell? ⟨b,off + (i / 64).toNat,none⟩=some (.int .u64 x)) :
  Calls Tryz.prog 107 #[.agg #[.int .i64 n,.slice (some ⟨b,off,none⟩) len cap],.int .i64 i] w fun e w'=>e=.returned (.bool (x.testBit (i % 64).toNat))∧Below w.heap.size w w':=by
 go_enter Tryz.func107,Tryz.ntmps107
 go_wp2
 go_ret
 exact ⟨by show Ending.returned (.bool (((x:Int) / 2 ^ (i % 64).toNat).tmod 2 == 1))=_;rw [is_form],bX⟩
theorem is_any {A:Option Addr} {ws:List Nat} {w:World} (i n:Int) (cap:Nat) (hr:Row w w.heap.size A ws) (h0:0 ≤ i) (h1:i < 64 * ws.length) (hl:ws.length ≤ 64) :
  Calls Tryz.prog 107 #[.agg #[.int .i64 n,.slice A ws.length cap],.int .i64 i] w fun e w'=>e=.returned (.bool (tb ws i.toNat))∧Below w.heap.size w w':=by
 obtain ⟨b,off,rfl,hb,hc⟩:=hr.at_ (by omega)
 have:=is_core i n b off ws.length cap _ w h0 h1 hl hb (hc (i / 64).toNat (by omega))
 unfold tb
 rw [show i.toNat / 64=(i / 64).toNat by omega,show i.toNat % 64=(i % 64).toNat by omega]
 exact this
section
variable (n:Int) (A:Option Addr) (len cap:Nat) (w:World)
theorem rcheck_neg (h:n < 0) :
  Calls Tryz.prog 145 #[.agg #[.int .i64 n,.slice A len cap]] w fun e w'=>e=.returned (.int .i64 2)∧Below w.heap.size w w':=by
 have hd:decide (n < 0)=true:=by simpa using h
 go_enter Tryz.func145,Tryz.ntmps145
 go_wp2
 go_ret
 exact ⟨rfl,bX⟩
theorem rcheck_big (h0:0 ≤ n) (h:4096 < n) :
  Calls Tryz.prog 145 #[.agg #[.int .i64 n,.slice A len cap]] w fun e w'=>e=.returned (.int .i64 2)∧Below w.heap.size w w':=by
 have hd:decide (n < 0)=false:=by simpa using h0
 have hd2:decide (4096 < n)=true:=by simpa using h
 go_enter Tryz.func145,Tryz.ntmps145
 go_wp2
 go_ret
 exact ⟨rfl,bX⟩
theorem rcheck_len (h0:0 ≤ n) (h1:n ≤ 4096) (h:(len:Int) ≠ (n + 63) / 64) :
  Calls Tryz.prog 145 #[.agg #[.int .i64 n,.slice A len cap]] w fun e w'=>e=.returned (.int .i64 2)∧Below w.heap.size w w':=by
 have hd:decide (n < 0)=false:=by simpa using h0
 have hd2:decide (4096 < n)=false:=by simpa using h1
 have hd3:((len:Int) != (n + 63) / 64)=true:=by simpa using h
 clear h
 go_enter Tryz.func145,Tryz.ntmps145
 go_wp2
 go_ret
 exact ⟨rfl,bX⟩
end
def RC (n:Int) (ws:List Nat) (e:Ending):Prop:=(Right n ws∧e=.returned (.int .i64 0)) ∨ (¬ Right n ws∧e=.returned (.int .i64 2))
def ZeroTo (n:Int) (ws:List Nat) (k:Nat):Prop:=∀ j,n.toNat ≤ j → j < k → tb ws j=false
theorem rcheck_loop (n:Int) (A:Option Addr) (cap:Nat) (ws:List Nat) (w:World) (hr:Row w w.heap.size A ws) (h0:0 ≤ n) (h1:n ≤ 4096) (h:(ws.length:Int)=(n + 63) / 64) :
  Calls Tryz.prog 145 #[.agg #[.int .i64 n,.slice A ws.length cap]] w fun e w'=>RC n ws e∧Below w.heap.size w w':=by
 have hd:decide (n < 0)=false:=by simpa using h0
 have hd2:decide (4096 < n)=false:=by simpa using h1
 have hd3:((ws.length:Int) != (n + 63) / 64)=false:=by simpa using h
 have hl:ws.length ≤ 64:=by omega
 have hn:n ≤ 64 * ws.length:=by omega
 have H:=Lib.hid h
 clear h
 go_enter Tryz.func145,Tryz.ntmps145
 go_wp2
 go_loopw [3] (fun i wr=>∃ k:Nat,i=.int .i64 k∧n.toNat ≤ k∧k ≤ 64 * ws.length∧ZeroTo n ws k∧Below w.heap.size w wr∧w.heap.size < wr.heap.size ∧
   wr.cell? ⟨w.heap.size,0,none⟩=some (.int .i64 n)∧wr.cell? ⟨w.heap.size,1,none⟩=some (.slice A ws.length cap)) (fun i _=>64 * ws.length - (intOf i).toNat)
 case atStart=>exact ⟨n.toNat,by rw [Int.toNat_of_nonneg h0],Nat.le_refl _,by omega,fun j h1 h2=>by omega,bX,by simp,by simp [go_sem],by simp [go_sem]⟩
 case round=>
  obtain ⟨k,rfl,hk1,hk2,hz,hB,hsz,hc0,hc1⟩:=hrel
  have hrr:Row wr wr.heap.size A ws:=(hr.below hB).more hB.size
  by_cases hlt:k < 64 * ws.length
  ·go_wp2_with (go_at_call 107;refine (is_any _ _ _ hrr (by omega) (by omega) hl).mono ?_;rintro e w' ⟨rfl,hb⟩;simp only [Int.toNat_natCast])
   ·have ht:tb ws k=true:=by assumption
    go_ret
    exact ⟨.inr ⟨(fun hR=>Bool.noConfusion ((hR.2.2.2 k hk1 hlt).symm.trans ht)),rfl⟩,below_trans hB hb hB.size⟩
   ·have ht:tb ws k=false:=by assumption
    go_roundw
    case rel=>exact ⟨k + 1,by go_num,by omega,by omega,fun j h1 h2=>by
      by_cases e:j=k
      ·rw [e];exact ht
      ·exact hz j h1 (by omega),below_trans hB hb hB.size,Nat.lt_of_lt_of_le hsz hb.size,by rw [(bcell hb).1 _ _ hsz];exact hc0,by rw [(bcell hb).1 _ _ hsz];exact hc1⟩
    case measure=>simp [intOf];omega
  ·go_wp2
   go_ret
   exact ⟨.inl ⟨⟨h0,h1,by have:=H.out;omega,fun j h1 h2=>hz j h1 (by omega)⟩,rfl⟩,hB⟩
theorem rcheck_any {n:Int} {A:Option Addr} {ws:List Nat} {w:World} (cap:Nat) (hr:Row w w.heap.size A ws) :
  Calls Tryz.prog 145 #[.agg #[.int .i64 n,.slice A ws.length cap]] w fun e w'=>RC n ws e∧Below w.heap.size w w':=by
 by_cases h0:n < 0
 ·exact (rcheck_neg n A _ cap w h0).mono fun _ _ ⟨he,hb⟩=>⟨.inr ⟨fun h=>by have:=h.1;omega,he⟩,hb⟩
 by_cases h1:4096 < n
 ·exact (rcheck_big n A _ cap w (by omega) h1).mono fun _ _ ⟨he,hb⟩=>⟨.inr ⟨fun h=>by have:=h.2.1;omega,he⟩,hb⟩
 by_cases h2:(ws.length:Int)=(n + 63) / 64
 ·exact rcheck_loop n A cap ws w hr (by omega) (by omega) h2
 ·exact (rcheck_len n A _ cap w (by omega) (by omega) h2).mono fun _ _ ⟨he,hb⟩=>⟨.inr ⟨fun h=>by have:=h.2.2.1;have:=h.1;omega,he⟩,hb⟩
theorem rcheck_ok {n:Int} {A:Option Addr} {ws:List Nat} {w:World} (cap:Nat) (hr:Row w w.heap.size A ws) (h:Right n ws) :
  Calls Tryz.prog 145 #[.agg #[.int .i64 n,.slice A ws.length cap]] w fun e w'=>e=.returned (.int .i64 0)∧Below w.heap.size w w':=
 (rcheck_any cap hr).mono fun _ _ ⟨he,hb⟩=>⟨by rcases he with he | he;exact he.2;exact absurd h he.1,hb⟩
theorem rcheck_bad {n:Int} {A:Option Addr} {ws:List Nat} {w:World} (cap:Nat) (hr:Row w w.heap.size A ws) (h:¬ Right n ws) :
  Calls Tryz.prog 145 #[.agg #[.int .i64 n,.slice A ws.length cap]] w fun e w'=>e=.returned (.int .i64 2)∧Below w.heap.size w w':=
 (rcheck_any cap hr).mono fun _ _ ⟨he,hb⟩=>⟨by rcases he with he | he;exact absurd he.1 h;exact he.2,hb⟩
def SameTo (ws ws':List Nat) (k:Nat):Prop:=∀ j,j < k → ws.getD j 0=ws'.getD j 0
theorem named (ws:List Nat) (k:Nat):∃ x,Hid (ws.getD k 0=x):=⟨_,rfl⟩
theorem same_loop (n:Int) (A A':Option Addr) (cap cap':Nat) (ws ws':List Nat) (w:World) (hr:Row w w.heap.size A ws) (hr':Row w w.heap.size A' ws') (hl:ws.length=ws'.length) (hm:ws.length ≤ maxLen) :
  Calls Tryz.prog 141 #[.agg #[.int .i64 n,.slice A ws.length cap],.agg #[.int .i64 n,.slice A' ws.length cap']] w fun e w'=>e=.returned (.bool (decide (ws=ws')))∧Below w.heap.size w w':=by
 unfold maxLen at hm
 have H:=Lib.hid hl
 clear hl
 have hd:(n != n)=false:=by simp
 have hd2:((ws.length:Int) != (ws.length:Int))=false:=by simp
 go_enter Tryz.func141,Tryz.ntmps141
 go_wp2
 go_loopw [23] (fun i wr=>∃ k m:Nat,i=.int .i64 k∧k ≤ ws.length∧SameTo ws ws' k∧wr=((w.alloc (Obj.cells #[Value.int IntKind.i64 n,Value.slice A ws.length cap] 26)).alloc (Obj.cells #[Value.int IntKind.i64 n,Value.slice A' ws.length cap'] 26)).drewN m)
  (fun i _=>ws.length - (intOf i).toNat)
 case atStart=>exact ⟨0,0,rfl,Nat.zero_le _,fun j h=>by omega,rfl⟩
 case round=>
  obtain ⟨k,m,rfl,hk,hs,rfl⟩:=hrel
  by_cases hlt:k < ws.length
  ·obtain ⟨b,off,rfl,hb,hc⟩:=hr.at_ (by omega)
   obtain ⟨b',off',rfl,hb',hc'⟩:=hr'.at_ (by have:=H.out;omega)
   have hck:=hc k hlt
   have hck':=hc' k (by have:=H.out;omega)
   obtain ⟨x,hx⟩:=named ws k
   obtain ⟨x',hx'⟩:=named ws' k
   rw [hx.out] at hck
   rw [hx'.out] at hck'
   clear hc hc'
   go_wp2
   go_quiet (fail)
   go_wp2
   ·have ht:((x:Int) != (x':Int))=true:=by assumption
    go_ret
    refine ⟨ret_bool (decide_eq_false ?_).symm,bX⟩
    rintro rfl
    rw [← hx.out,← hx'.out] at ht
    simp at ht
   ·have ht:((x:Int) != (x':Int))=false:=by assumption
    go_roundw
    case rel=>exact ⟨k + 1,_,by go_num,by omega,fun j hj=>by
      by_cases e:j=k
      ·rw [e,hx.out,hx'.out];have:=bne_eq_false_iff_eq.1 ht;omega
      ·exact hs j (by omega),rfl⟩
    case measure=>simp [intOf];omega
  ·go_wp2
   go_ret
   exact ⟨ret_bool (decide_eq_true (List.ext_getElem H.out (fun i h1 h2=>by have:=hs i (by omega);simpa [h1,h2] using this))).symm,bX⟩
def vals (ws:List Nat):List Value:=ws.map fun (x:Nat)=>Value.int .u64 ((x:Nat):Int)
theorem length_vals (ws:List Nat):(vals ws).length=ws.length:=by simp [vals]
theorem vals_at (ws:List Nat) (i:Nat) (h:i < ws.length):(vals ws)[i]?=some (.int .u64 (ws.getD i 0:Nat)):=by
 simp [vals,h]
theorem vals_one (ws:List Nat):∀ v ∈ vals ws,v.oneCell'=true:=by
 intro v hv
 simp only [vals,List.mem_map] at hv
 obtain ⟨x,_,rfl⟩:=hv
 rfl
theorem Row.src {w:World} {B:Nat} {A:Option Addr} {ws:List Nat} (h:Row w B A ws) (hl:0 < (vals ws).length):∃ ad,A=some ad∧∀ (j:Nat) (v:Value),(vals ws)[j]?=some v → w.cell? (ad.add j)=some v:=by
 rw [length_vals] at hl
 obtain ⟨b,off,e,_,hc⟩:=h.at_ hl
 refine ⟨_,e,fun j v hv=>?_⟩
 have hj:j < ws.length:=by
  have:=(List.getElem?_eq_some_iff.1 hv).1
  rwa [length_vals] at this
 rw [vals_at ws j hj] at hv
 injection hv with hv
 subst hv
 rw [← hc j hj]
 congr 1
 unfold Addr.add
 by_cases e0:j=0 <;> simp [e0]
theorem add_form (b off j:Nat):(⟨b,off,none⟩:Addr).add j=⟨b,off + j,none⟩:=by
 unfold Addr.add
 by_cases e0:j=0 <;> simp [e0]
theorem Row.src2 {w w':World} {b off:Nat} {ws:List Nat} (h:Row w w.heap.size (some ⟨b,off,none⟩) ws) (hb:Below w.heap.size w w') (j:Nat) (v:Value) (hv:(vals ws)[j]?=some v):w'.cell? ((⟨b,off,none⟩:Addr).add j)=some v:=by
 have hj:j < ws.length:=by
  have:=(List.getElem?_eq_some_iff.1 hv).1
  rwa [length_vals] at this
 obtain ⟨b',off',e,_,hc⟩:=(h.later hb).at_ (by omega)
 injection e with e
 injection e with e1 e2
 subst e1 e2
 rw [vals_at ws j hj] at hv
 injection hv with hv
 subst hv
 rw [add_form]
 exact hc j hj
theorem splice_all {α:Type} (L cs:List α) (h:L.length=cs.length):splice L 0 cs=cs:=by
 simp [splice,h]
structure Own (w:World) (B:Nat) (A:Option Addr) (ws:List Nat):Prop where
 words:Words ws
 at_:0 < ws.length → ∃ g,A=some ⟨g,0,none⟩∧B ≤ g∧g < w.heap.size∧∀ i,i < ws.length → w.cell? ⟨g,i,none⟩=some (.int .u64 (ws.getD i 0:Nat))∧w.frozen? ⟨g,i,none⟩=false
theorem Own.row {w:World} {B:Nat} {A:Option Addr} {ws:List Nat} (h:Own w B A ws):Row w w.heap.size A ws:=
 ⟨h.words,fun hl=>by
  obtain ⟨g,e,_,hg,hc⟩:=h.at_ hl
  exact ⟨g,0,e,hg,fun i hi=>by rw [Nat.zero_add];exact (hc i hi).1⟩⟩
theorem Own.nil (w:World) (B:Nat):Own w B none []:=⟨fun x hx=>by simp at hx,fun h=>by simp at h⟩
theorem Own.later {w w':World} {B:Nat} {A:Option Addr} {ws:List Nat} (h:Own w B A ws) (hb:Below w.heap.size w w'):Own w' B A ws:=
 ⟨h.words,fun hl=>by
  obtain ⟨g,e,h1,hg,hc⟩:=h.at_ hl
  exact ⟨g,e,h1,Nat.lt_of_lt_of_le hg hb.size,fun i hi=>⟨((bcell hb).1 _ _ hg).trans (hc i hi).1,((bcell hb).2 _ _ hg).trans (hc i hi).2⟩⟩⟩
theorem Own.mono {w:World} {B B':Nat} {A:Option Addr} {ws:List Nat} (h:Own w B A ws) (hB:B' ≤ B):Own w B' A ws:=
 ⟨h.words,fun hl=>by
  obtain ⟨g,e,h1,hg,hc⟩:=h.at_ hl
  exact ⟨g,e,by omega,hg,hc⟩⟩
theorem Own.far {w:World} {B:Nat} {A:Option Addr} {ws:List Nat} (h:Own w B A ws) {p:Addr} (hp:p.block < B ∨ w.heap.size ≤ p.block) (u:Value):Own (w.setCell p u) B A ws:=
 ⟨h.words,fun hl=>by
  obtain ⟨g,e,h1,hg,hc⟩:=h.at_ hl
  refine ⟨g,e,h1,by simpa using hg,fun i hi=>⟨?_,?_⟩⟩
  ·rw [cO]
   ·exact (hc i hi).1
   ·rintro rfl
    have:(Addr.block ⟨g,i,none⟩)=g:=rfl
    omega
  ·rw [World.frozen?_setCell]
   exact (hc i hi).2⟩
theorem Own.set_ {w:World} {B:Nat} {A:Option Addr} {ws:List Nat} (h:Own w B A ws) {g i x:Nat} (hA:A=some ⟨g,0,none⟩) (hi:i < ws.length) (hx:x < W64):Own (w.setCell ⟨g,i,none⟩ (.int .u64 (x:Nat))) B A (ws.set i x):=
 ⟨fun y hy=>by
  rcases List.mem_or_eq_of_mem_set hy with hy | rfl
  ·exact h.words y hy
  ·exact hx,fun hl=>by
  obtain ⟨g',e,h1,hg,hc⟩:=h.at_ (by omega)
  rw [hA] at e
  injection e with e
  injection e with e
  subst e
  refine ⟨g,hA,h1,by simpa using hg,fun j hj=>⟨?_,?_⟩⟩
  ·rw [List.length_set] at hj
   by_cases e:j=i
   ·subst e
    rw [World.cell?_setCell_same _ _ _ (hc j hj).1]
    simp [hj]
   ·rw [cO _ _ _ _ (by intro he;injection he with _ he;exact e he.symm),(hc j hj).1]
    simp [Ne.symm e]
  ·rw [World.frozen?_setCell]
   rw [List.length_set] at hj
   exact (hc j hj).2⟩
theorem heap_lt {w:World} {g:Nat} {o:Obj} (h:w.heap[g]?=some o):g < w.heap.size:=by
 rcases Nat.lt_or_ge g w.heap.size with hlt | hge
 ·exact hlt
 ·rw [Array.getElem?_eq_none hge] at h;cases h
theorem Own.of_block {w:World} {B g:Nat} {ws:List Nat} (h:w.heap[g]?=some (.cells (vals ws).toArray 32 (0,0))) (hB:B ≤ g) (hw:Words ws):Own w B (some ⟨g,0,none⟩) ws:=
 ⟨hw,fun _=>⟨g,rfl,hB,heap_lt h,fun i hi=>⟨by
   rw [cell_of_row w g i _ _ (0,0) h,List.getElem?_toArray,vals_at ws i hi],by simp [World.frozen?,h]⟩⟩⟩
theorem info_u64:(Tryz.prog.info? 32).map (fun i=>(i.zero,i.size,i.bytes))=some (some (.int .u64 0),1,8):=by kernel_rfl
theorem made_vals (n:Nat):madeCells #[Value.int .u64 0] n=(vals (List.replicate n 0)).toArray:=by
 apply Array.ext'
 rw [toList_madeCells_one]
 simp [vals]
theorem run_make_words (n:Nat) (hn:n ≤ 16384) (W:World) :
  (Instr.makeSlice 22 (.int .i64 (n:Int)) (.int .i64 (n:Int))).run Tryz.prog W=.ok (.slice (some ⟨W.heap.size,0,none⟩) n n) (W.alloc (.cells (vals (List.replicate n 0)).toArray 32)):=by
 obtain ⟨i0,hi,hz0,hz1,hz2⟩:=info_parts info_u64
 have h:=run_make (P:=Tryz.prog) W 22 32 i0 _ Tryz.underlying22 hi hz0 .i64 .i64 (n:Int) (n:Int) (by omega) (by omega) (by rw [hz2];omega) (by omega)
 rw [h,hz1,Nat.mul_one,Int.toNat_natCast]
 show _=Result.ok _ (World.alloc W (.cells (vals (List.replicate n 0)).toArray 32))
 rw [← made_vals]
 rfl
theorem block2 (w:World) (o o':Obj):((w.alloc o).alloc o').heap[w.heap.size + 1]?=some o':=by
 have h:=heap_alloc_new (w.alloc o) o'
 rwa [World.size_alloc] at h
theorem block3 (w:World) (o o' o'':Obj):(((w.alloc o).alloc o').alloc o'').heap[w.heap.size + 2]?=some o'':=by
 have h:=block2 (w.alloc o) o' o''
 rwa [World.size_alloc] at h
theorem own_empty (w w':World) (o o':Obj) (h:w'.heap=(((w.alloc o).alloc o').alloc (.cells #[] 32)).heap):w'.ownsRow (w.heap.size + 2) 32 1 (.slice (some ⟨w.heap.size + 1 + 1,0,none⟩) 0 0) 0 []:=
 ⟨rfl,.inr ⟨w.heap.size + 1 + 1,0,#[],rfl,Nat.le_refl _,by rw [h];exact block3 _ _ _ _,Nat.le_refl _,Nat.zero_le _,rfl,rfl⟩⟩
theorem Own.of_owns {w:World} {B g cap:Nat} {ws:List Nat} (h:w.ownsRow B 32 1 (.slice (some ⟨g,0,none⟩) ws.length cap) ws.length (vals ws)) (hw:Words ws):Own w B (some ⟨g,0,none⟩) ws:=
 ⟨hw,fun hl=>⟨g,rfl,(h.lt g rfl).1,(h.lt g rfl).2,fun i hi=>⟨by rw [h.cellAt i (by omega),vals_at ws i hi],h.frozenAt i⟩⟩⟩
def Fresh (w:World) (n:Int) (ws:List Nat) (why:Int) (e:Ending) (w':World):Prop:=
 ∃ A cap,e=.returned (.tuple #[.agg #[.int .i64 n,.slice A ws.length cap],.int .i64 why])∧Own w' w.heap.size A ws∧Below w.heap.size w w'
end Go.Proofs.YtafpkaifaccehaaGreatDoor
