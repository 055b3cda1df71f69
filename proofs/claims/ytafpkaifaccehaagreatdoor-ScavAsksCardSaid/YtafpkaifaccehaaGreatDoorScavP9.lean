/- Parts of the proof. -/
import Derived.Test.YtafpkaifaccehaaGreatDoorScavP8
import Derived.Deep.RegionWith
import Derived.Deep.RegionHeld3
import Derived.Laws.ResultCell
set_option maxRecDepth 100000
set_option linter.unusedVariables false
set_option linter.unusedSimpArgs false
namespace Go.Proofs.YtafpkaifaccehaaGreatDoor
open Go.RowKit
section
variable {A:Option Addr} {ws:List Nat} {w:World} (cap:Nat)
set_option maxHeartbeats 1000000 in
theorem store_core (i v:Int) (b:Bool) (us:List Nat) (why:Int) (hl:ws.length ≤ 17592186044416) (h0:0 ≤ i) (h1:i ≤ 18446744073709551615) (hb:(b=true∧There ws.length i 1) ∨ (b=false∧¬ There ws.length i 1))
  (D:∀ W:World,Below w.heap.size w W → W.cell? ⟨w.heap.size + 1,0,none⟩=some (.int .u64 i) → W.cell? ⟨w.heap.size + 2,0,none⟩=some (.int .u64 v) → w.heap.size + 2 < W.heap.size → Calls Tryz.prog 231 #[.agg #[.slice A ws.length cap],.bool b,.func (.func 232) #[] #[.pointer (some ⟨w.heap.size + 2,0,none⟩),.pointer (some ⟨w.heap.size + 1,0,none⟩)]] W fun e w'=>FreshA W us why e w') :
  Calls Tryz.prog 178 #[.agg #[.slice A ws.length cap],.int .u64 i,.int .u64 v] w fun e w'=>FreshA w us why e w':=by
 have HB:=Lib.hid hb
 have HD:=Lib.hid D
 clear hb D
 go_enter Tryz.func178,Tryz.ntmps178
 go_wp2
 go_region_held3 (fun X=>X.cell? ⟨w.heap.size,0,none⟩=some (.slice A ws.length cap)∧X.cell? ⟨w.heap.size + 1,0,none⟩=some (.int .u64 i))
  ((refine ⟨?_,?_⟩ <;> first
   | assumption
   | (simp [go_sem];done)
   | (rw [cO _ _ _ _ (by simp)];assumption)))
  ((first
   | (go_at_call 230;refine (fits_any _ _ i 1 b (by omega) h0 (by omega) (by omega) h1 HB.out).mono ?_;rintro e w1 ⟨rfl,hb_w1⟩;obtain ⟨hc_w1,hf_w1⟩:=bcell hb_w1;have hz_w1_w_0:w.heap.size < w1.heap.size:=lY hb_w1.size;have hz_w1_w_1:w.heap.size + 1 < w1.heap.size:=lY hb_w1.size;have hz_w1_w_2:w.heap.size + 2 < w1.heap.size:=lY hb_w1.size;have hz_w1_w_3:w.heap.size + 3 < w1.heap.size:=lY hb_w1.size;have hs_w1:=hb_w1.size;(try simp only [zZ] at hs_w1);have ka1:w1.cell? ⟨w.heap.size,0,none⟩=some (.slice A ws.length cap):=((hc_w1 _ _ lX).trans (by simp [go_sem]));have kb1:w1.cell? ⟨w.heap.size + 1,0,none⟩=some (.int .u64 i):=((hc_w1 _ _ lX).trans (by simp [go_sem])))
   | (go_at_call 231;refine (HD.out _ bX (by assumption) (by exact (hc_w1 _ _ lX).trans (by simp [go_sem])) lX).mono ?_;rintro e w2 ⟨A2,cap2,rfl,ho2,hb_w2⟩;obtain ⟨hc_w2,hf_w2⟩:=bcell hb_w2;have hz_w2_w_0:w.heap.size < w2.heap.size:=lY hb_w2.size;have hz_w2_w_1:w.heap.size + 1 < w2.heap.size:=lY hb_w2.size;have hz_w2_w_2:w.heap.size + 2 < w2.heap.size:=lY hb_w2.size;have hz_w2_w_3:w.heap.size + 3 < w2.heap.size:=lY hb_w2.size;have hs_w2:=hb_w2.size;(try simp only [zZ] at hs_w2);have ka2:w2.cell? ⟨w.heap.size,0,none⟩=some (.slice A ws.length cap):=((hc_w2 _ _ lX).trans ka1);have kb2:w2.cell? ⟨w.heap.size + 1,0,none⟩=some (.int .u64 i):=((hc_w2 _ _ lX).trans kb1)
      have t2:One w2 (w.heap.size + 3) (.slice none 0 0):=⟨(hc_w2 _ _ lX).trans ((hc_w1 _ _ lX).trans (by simp [go_sem])),(hf_w2 _ _ lX).trans ((hf_w1 _ _ lX).trans (by simp [go_sem]))⟩)))
 all_goals
  go_wp2
  exact bodyPost_ret (res_arena rfl rfl (t2.set_ _).c0) rfl ⟨_,cap2,rfl,⟨(ho2.1.far (p:=⟨w.heap.size + 3,0,none⟩) (.inl lX) _).mono lX,ho2.2⟩,bX⟩
set_option maxHeartbeats 1000000 in
theorem clear_core (i n:Int) (b:Bool) (us:List Nat) (why:Int) (hl:ws.length ≤ 17592186044416) (h0:0 ≤ i) (h1:i ≤ 18446744073709551615) (h2:0 ≤ n) (h3:n ≤ 18446744073709551615) (hb:(b=true∧There ws.length i n) ∨ (b=false∧¬ There ws.length i n))
  (D:∀ W:World,Below w.heap.size w W → W.cell? ⟨w.heap.size + 1,0,none⟩=some (.int .u64 i) → W.cell? ⟨w.heap.size + 2,0,none⟩=some (.int .u64 n) → w.heap.size + 2 < W.heap.size → Calls Tryz.prog 231 #[.agg #[.slice A ws.length cap],.bool b,.func (.func 242) #[] #[.pointer (some ⟨w.heap.size + 1,0,none⟩),.pointer (some ⟨w.heap.size + 2,0,none⟩)]] W fun e w'=>FreshA W us why e w') :
  Calls Tryz.prog 191 #[.agg #[.slice A ws.length cap],.int .u64 i,.int .u64 n] w fun e w'=>FreshA w us why e w':=by
 have HB:=Lib.hid hb
 have HD:=Lib.hid D
 clear hb D
 go_enter Tryz.func191,Tryz.ntmps191
 go_wp2
 go_region_held3 (fun X=>X.cell? ⟨w.heap.size,0,none⟩=some (.slice A ws.length cap)∧X.cell? ⟨w.heap.size + 1,0,none⟩=some (.int .u64 i)∧X.cell? ⟨w.heap.size + 2,0,none⟩=some (.int .u64 n))
  ((refine ⟨?_,?_,?_⟩ <;> first
   | assumption
   | (simp [go_sem];done)
   | (rw [cO _ _ _ _ (by simp)];assumption)))
  ((first
   | (go_at_call 230;refine (fits_any _ _ i n b (by omega) h0 h2 h3 h1 HB.out).mono ?_;rintro e w1 ⟨rfl,hb_w1⟩;obtain ⟨hc_w1,hf_w1⟩:=bcell hb_w1;have hz_w1_w_0:w.heap.size < w1.heap.size:=lY hb_w1.size;have hz_w1_w_1:w.heap.size + 1 < w1.heap.size:=lY hb_w1.size;have hz_w1_w_2:w.heap.size + 2 < w1.heap.size:=lY hb_w1.size;have hz_w1_w_3:w.heap.size + 3 < w1.heap.size:=lY hb_w1.size;have hs_w1:=hb_w1.size;(try simp only [zZ] at hs_w1);have ka1:w1.cell? ⟨w.heap.size,0,none⟩=some (.slice A ws.length cap):=((hc_w1 _ _ lX).trans (by simp [go_sem]));have kc1:w1.cell? ⟨w.heap.size + 2,0,none⟩=some (.int .u64 n):=((hc_w1 _ _ lX).trans (by simp [go_sem]));have kb1:w1.cell? ⟨w.heap.size + 1,0,none⟩=some (.int .u64 i):=((hc_w1 _ _ lX).trans (by simp [go_sem])))
   | (go_at_call 231;refine (HD.out _ bX (by assumption) (by exact (hc_w1 _ _ lX).trans (by simp [go_sem])) lX).mono ?_;rintro e w2 ⟨A2,cap2,rfl,ho2,hb_w2⟩;obtain ⟨hc_w2,hf_w2⟩:=bcell hb_w2;have hz_w2_w_0:w.heap.size < w2.heap.size:=lY hb_w2.size;have hz_w2_w_1:w.heap.size + 1 < w2.heap.size:=lY hb_w2.size;have hz_w2_w_2:w.heap.size + 2 < w2.heap.size:=lY hb_w2.size;have hz_w2_w_3:w.heap.size + 3 < w2.heap.size:=lY hb_w2.size;have hs_w2:=hb_w2.size;(try simp only [zZ] at hs_w2);have ka2:w2.cell? ⟨w.heap.size,0,none⟩=some (.slice A ws.length cap):=((hc_w2 _ _ lX).trans ka1);have kc2:w2.cell? ⟨w.heap.size + 2,0,none⟩=some (.int .u64 n):=((hc_w2 _ _ lX).trans kc1);have kb2:w2.cell? ⟨w.heap.size + 1,0,none⟩=some (.int .u64 i):=((hc_w2 _ _ lX).trans kb1)
      have t2:One w2 (w.heap.size + 3) (.slice none 0 0):=⟨(hc_w2 _ _ lX).trans ((hc_w1 _ _ lX).trans (by simp [go_sem])),(hf_w2 _ _ lX).trans ((hf_w1 _ _ lX).trans (by simp [go_sem]))⟩)))
 all_goals
  go_wp2
  exact bodyPost_ret (res_arena rfl rfl (t2.set_ _).c0) rfl ⟨_,cap2,rfl,⟨(ho2.1.far (p:=⟨w.heap.size + 3,0,none⟩) (.inl lX) _).mono lX,ho2.2⟩,bX⟩
end
def resA (ws:List Nat) (p:Prop) [Decidable p] (us:List Nat):List Nat:=if ws.length ≤ 16384 then (if p then us else ws) else []
def errA (ws:List Nat) (p:Prop) [Decidable p]:Int:=if ws.length ≤ 16384 then (if p then 0 else 1) else 2
theorem resA_bad {ws us:List Nat} {p:Prop} [Decidable p] (h:¬ ws.length ≤ 16384):resA ws p us=[]∧errA ws p=2:=⟨if_neg h,if_neg h⟩
theorem resA_in {ws us:List Nat} {p:Prop} [Decidable p] (h:ws.length ≤ 16384) (hp:p):resA ws p us=us∧errA ws p=0:=⟨(if_pos h).trans (if_pos hp),(if_pos h).trans (if_pos hp)⟩
theorem resA_out {ws us:List Nat} {p:Prop} [Decidable p] (h:ws.length ≤ 16384) (hp:¬ p):resA ws p us=ws∧errA ws p=1:=⟨(if_pos h).trans (if_neg hp),(if_pos h).trans (if_neg hp)⟩
theorem there_iff (len a n:Nat):There len (a:Nat) (n:Nat) ↔ a + n ≤ len:=by unfold There;omega
section
variable {A:Option Addr} {ws:List Nat} {w:World} (cap:Nat)
theorem cell_later {W W':World} {a:Nat} {v:Value} (hb:Below W.heap.size W W') (h:W.cell? ⟨a,0,none⟩=some v):W'.cell? ⟨a,0,none⟩=some v:=((bcell hb).1 _ _ (World.block_lt_of_cell? W ⟨a,0,none⟩ h)).trans h
theorem store_any (i v:Nat) (hr:Row w w.heap.size A ws) (hl:ws.length ≤ 17592186044416) (h1:i < W64) (hv:v < W64) :
  Calls Tryz.prog 178 #[.agg #[.slice A ws.length cap],.int .u64 (i:Nat),.int .u64 (v:Nat)] w fun e w'=>FreshA w (resA ws (i + 1 ≤ ws.length) (ws.set i v)) (errA ws (i + 1 ≤ ws.length)) e w':=by
 have hi:((i:Nat):Int) ≤ 18446744073709551615:=by unfold W64 at h1;omega
 by_cases hb:ws.length ≤ 16384
 ·by_cases ht:i + 1 ≤ ws.length
  ·rw [(resA_in (us:=ws.set i v) hb ht).1,(resA_in (us:=ws.set i v) hb ht).2]
   exact store_core cap i v true _ _ hl (by omega) hi (.inl ⟨rfl,(there_iff _ i 1).2 ht⟩) fun W hbW hq hp hlt=>changed_store cap (w.heap.size + 2) (w.heap.size + 1) (ws.set i v) (hr.later hbW) hb (by simp) fun W2 g hG hb2 hg=>
    do_store i v _ _ hG hr.words hb (by omega) hv (cell_later hb2 hp) (cell_later hb2 hq)
  ·rw [(resA_out (us:=ws.set i v) hb ht).1,(resA_out (us:=ws.set i v) hb ht).2]
   exact store_core cap i v false _ _ hl (by omega) hi (.inr ⟨rfl,fun h=>ht ((there_iff _ i 1).1 h)⟩) fun W hbW hq hp hlt=>changed_out cap _ (hr.later hbW) hb
 ·rw [(resA_bad (us:=ws.set i v) (p:=i + 1 ≤ ws.length) hb).1,(resA_bad (us:=ws.set i v) (p:=i + 1 ≤ ws.length) hb).2]
  by_cases ht:i + 1 ≤ ws.length
  ·exact store_core cap i v true _ _ hl (by omega) hi (.inl ⟨rfl,(there_iff _ i 1).2 ht⟩) fun W hbW hq hp hlt=>changed_bad cap _ _ hb
  ·exact store_core cap i v false _ _ hl (by omega) hi (.inr ⟨rfl,fun h=>ht ((there_iff _ i 1).1 h)⟩) fun W hbW hq hp hlt=>changed_bad cap _ _ hb
theorem clear_any (i n:Nat) (hr:Row w w.heap.size A ws) (hl:ws.length ≤ 17592186044416) (h1:i < W64) (h2:n < W64) :
  Calls Tryz.prog 191 #[.agg #[.slice A ws.length cap],.int .u64 (i:Nat),.int .u64 (n:Nat)] w fun e w'=>FreshA w (resA ws (i + n ≤ ws.length) (overTo ws i (fun _=>0) n)) (errA ws (i + n ≤ ws.length)) e w':=by
 have hi:((i:Nat):Int) ≤ 18446744073709551615:=by unfold W64 at h1;omega
 have hn:((n:Nat):Int) ≤ 18446744073709551615:=by unfold W64 at h2;omega
 by_cases hb:ws.length ≤ 16384
 ·by_cases ht:i + n ≤ ws.length
  ·rw [(resA_in (us:=overTo ws i (fun _=>0) n) hb ht).1,(resA_in (us:=overTo ws i (fun _=>0) n) hb ht).2]
   exact clear_core cap i n true _ _ hl (by omega) hi (by omega) hn (.inl ⟨rfl,(there_iff _ i n).2 ht⟩) fun W hbW hp hq hlt=>changed_clear cap (w.heap.size + 1) (w.heap.size + 2) (overTo ws i (fun _=>0) n) (hr.later hbW) hb (length_overTo _ _ _ _) fun W2 g hG hb2 hg=>
    do_clear i n _ _ hG hr.words hb ht (cell_later hb2 hp) (cell_later hb2 hq)
  ·rw [(resA_out (us:=overTo ws i (fun _=>0) n) hb ht).1,(resA_out (us:=overTo ws i (fun _=>0) n) hb ht).2]
   exact clear_core cap i n false _ _ hl (by omega) hi (by omega) hn (.inr ⟨rfl,fun h=>ht ((there_iff _ i n).1 h)⟩) fun W hbW hq hp hlt=>changed_out cap _ (hr.later hbW) hb
 ·rw [(resA_bad (us:=overTo ws i (fun _=>0) n) (p:=i + n ≤ ws.length) hb).1,(resA_bad (us:=overTo ws i (fun _=>0) n) (p:=i + n ≤ ws.length) hb).2]
  by_cases ht:i + n ≤ ws.length
  ·exact clear_core cap i n true _ _ hl (by omega) hi (by omega) hn (.inl ⟨rfl,(there_iff _ i n).2 ht⟩) fun W hbW hq hp hlt=>changed_bad cap _ _ hb
  ·exact clear_core cap i n false _ _ hl (by omega) hi (by omega) hn (.inr ⟨rfl,fun h=>ht ((there_iff _ i n).1 h)⟩) fun W hbW hq hp hlt=>changed_bad cap _ _ hb
def gotA (ws:List Nat) (i:Nat):Nat:=if ws.length ≤ 16384 then (if i + 1 ≤ ws.length then ws.getD i 0 else 0) else 0
theorem load_any (i:Nat) (hr:Row w w.heap.size A ws) (h1:i < W64) :
  Calls Tryz.prog 176 #[.agg #[.slice A ws.length cap],.int .u64 (i:Nat)] w fun e w'=>e=.returned (.tuple #[.int .u64 (gotA ws i:Nat),.int .i64 (errA ws (i + 1 ≤ ws.length))])∧Below w.heap.size w w':=by
 unfold gotA errA
 unfold W64 at h1
 by_cases hb:ws.length ≤ 16384
 ·rw [if_pos hb,if_pos hb]
  by_cases ht:i + 1 ≤ ws.length
  ·rw [if_pos ht,if_pos ht]
   have:=load_in cap (i:Nat) hr hb (by omega) (by omega)
   rwa [Int.toNat_natCast] at this
  ·rw [if_neg ht,if_neg ht]
   exact load_out cap (i:Nat) hb (by omega) (by omega) (by omega)
 ·rw [if_neg hb,if_neg hb]
  exact load_bad cap _ hb
theorem acheck_any:Calls Tryz.prog 216 #[.agg #[.slice A ws.length cap]] w fun e w'=>e=.returned (.int .i64 (errA ws True))∧Below w.heap.size w w':=by
 unfold errA
 by_cases hb:ws.length ≤ 16384
 ·rw [if_pos hb,if_pos trivial]
  exact acheck_ok _ _ hb
 ·rw [if_neg hb]
  exact acheck_bad _ _ hb
end
structure Sizes (w:World):Prop where
 c0:w.cell? ⟨0,0,none⟩=some (.int .i64 2)
 c1:w.cell? ⟨0,1,none⟩=some (.int .i64 4)
 c2:w.cell? ⟨0,2,none⟩=some (.int .i64 8)
 c3:w.cell? ⟨0,3,none⟩=some (.int .i64 16)
theorem Sizes.lt {w:World} (h:Sizes w):0 < w.heap.size:=World.block_lt_of_cell? w _ h.c0
theorem Sizes.later {w w':World} (h:Sizes w) (hb:Below w.heap.size w w'):Sizes w':=
 ⟨((bcell hb).1 _ _ h.lt).trans h.c0,((bcell hb).1 _ _ h.lt).trans h.c1,((bcell hb).1 _ _ h.lt).trans h.c2,((bcell hb).1 _ _ h.lt).trans h.c3⟩
def clsOf (x:Int):Int:=if x ≤ 2 then 0 else if x ≤ 4 then 1 else if x ≤ 8 then 2 else if x ≤ 16 then 3 else -1
def szOf (c:Int):Int:=if c=0 then 2 else if c=1 then 4 else if c=2 then 8 else 16
def pgOf (x:Int):Int:=if x ≤ 16 then 1 else (x + 15) / 16
theorem clsOf_case (x:Int) (h:1 ≤ x):(x ≤ 2∧clsOf x=0) ∨ (2 < x∧x ≤ 4∧clsOf x=1) ∨ (4 < x∧x ≤ 8∧clsOf x=2) ∨ (8 < x∧x ≤ 16∧clsOf x=3) ∨ (16 < x∧clsOf x=-1):=by
 unfold clsOf
 repeat' split
 all_goals omega
def In (x:Int):Prop:=1 ≤ x∧x ≤ 49
instance (x:Int):Decidable (In x):=inferInstanceAs (Decidable (_∧_))
section
variable {w:World}
set_option maxHeartbeats 1000000 in
theorem cof_in (hs:Sizes w) (x:Int) (h0:1 ≤ x) (h1:x ≤ 49) :
  Calls Tryz.prog 221 #[.int .i64 x] w fun e w'=>e=.returned (.tuple #[.int .i64 (clsOf x),.int .i64 0])∧w=w':=by
 obtain ⟨s0,s1,s2,s3⟩:=id hs
 have hd:decide (x < 1)=false:=decide_eq_false (by omega)
 have hd1:decide (49 < x)=false:=decide_eq_false (by omega)
 obtain ⟨r,hr⟩:∃ r,Hid (clsOf x=r):=⟨_,rfl⟩
 have HC:=Lib.hid (clsOf_case x h0)
 rw [hr.out] at HC ⊢
 have i0:∀ w:World,(Instr.index 276 (.agg #[.int .i64 2,.int .i64 4,.int .i64 8,.int .i64 16]) (.int .i64 0)).run Tryz.prog w=.ok (.int .i64 2) w:=fun w=>by kernel_rfl
 have i1:∀ w:World,(Instr.index 276 (.agg #[.int .i64 2,.int .i64 4,.int .i64 8,.int .i64 16]) (.int .i64 1)).run Tryz.prog w=.ok (.int .i64 4) w:=fun w=>by kernel_rfl
 have i2:∀ w:World,(Instr.index 276 (.agg #[.int .i64 2,.int .i64 4,.int .i64 8,.int .i64 16]) (.int .i64 2)).run Tryz.prog w=.ok (.int .i64 8) w:=fun w=>by kernel_rfl
 have i3:∀ w:World,(Instr.index 276 (.agg #[.int .i64 2,.int .i64 4,.int .i64 8,.int .i64 16]) (.int .i64 3)).run Tryz.prog w=.ok (.int .i64 16) w:=fun w=>by kernel_rfl
 go_enter Tryz.func221,Tryz.ntmps221
 go_wp2
 go_loopw [13] (fun i wr=>∃ k:Nat,i=.int .i64 (k:Nat)∧k ≤ 4∧(0 < k → 2 < x)∧(1 < k → 4 < x)∧(2 < k → 8 < x)∧(3 < k → 16 < x)∧wr=w) (fun i _=>4 - (intOf i).toNat)
 case atStart=>exact ⟨0,rfl,by omega,by omega,by omega,by omega,by omega,rfl⟩
 case round=>
  obtain ⟨k,rfl,hk,k0,k1,k2,k3,rfl⟩:=hrel
  by_cases hlt:k < 4
  ·have hk4:k=0 ∨ k=1 ∨ k=2 ∨ k=3:=by omega
   rcases hk4 with rfl | rfl | rfl | rfl
   ·by_cases hx:x ≤ 2
    ·have e1:decide (x ≤ 2)=true:=decide_eq_true hx
     have hres:r=0:=by have:=HC.out;omega
     subst hres
     go_wp2
     go_ret2
     exact ⟨rfl,rfl⟩
    ·have e1:decide (x ≤ 2)=false:=decide_eq_false hx
     go_wp2
     go_roundw
     case rel=>exact ⟨1,rfl,by omega,by omega,by omega,by omega,by omega,by first | rfl | trivial⟩
     case measure=>simp [intOf]
   ·by_cases hx:x ≤ 4
    ·have e1:decide (x ≤ 4)=true:=decide_eq_true hx
     have hres:r=1:=by have:=HC.out;omega
     subst hres
     go_wp2
     go_ret2
     exact ⟨rfl,rfl⟩
    ·have e1:decide (x ≤ 4)=false:=decide_eq_false hx
     go_wp2
     go_roundw
     case rel=>exact ⟨2,rfl,by omega,by omega,by omega,by omega,by omega,by first | rfl | trivial⟩
     case measure=>simp [intOf]
   ·by_cases hx:x ≤ 8
    ·have e1:decide (x ≤ 8)=true:=decide_eq_true hx
     have hres:r=2:=by have:=HC.out;omega
     subst hres
     go_wp2
     go_ret2
     exact ⟨rfl,rfl⟩
    ·have e1:decide (x ≤ 8)=false:=decide_eq_false hx
     go_wp2
     go_roundw
     case rel=>exact ⟨3,rfl,by omega,by omega,by omega,by omega,by omega,by first | rfl | trivial⟩
     case measure=>simp [intOf]
   ·by_cases hx:x ≤ 16
    ·have e1:decide (x ≤ 16)=true:=decide_eq_true hx
     have hres:r=3:=by have:=HC.out;omega
     subst hres
     go_wp2
     go_ret2
     exact ⟨rfl,rfl⟩
    ·have e1:decide (x ≤ 16)=false:=decide_eq_false hx
     go_wp2
     go_roundw
     case rel=>exact ⟨4,rfl,by omega,by omega,by omega,by omega,by omega,by first | rfl | trivial⟩
     case measure=>simp [intOf]
  ·obtain rfl:k=4:=by omega
   have hres:r=-1:=by have:=HC.out;omega
   subst hres
   go_wp2
   go_ret2
   exact ⟨rfl,rfl⟩
theorem csize_in (hs:Sizes w) (c:Int) (h0:0 ≤ c) (h1:c < 4) :
  Calls Tryz.prog 222 #[.int .i64 c] w fun e w'=>e=.returned (.tuple #[.int .i64 (szOf c),.int .i64 0])∧w=w':=by
 obtain ⟨s0,s1,s2,s3⟩:=id hs
 have hc4:c=0 ∨ c=1 ∨ c=2 ∨ c=3:=by omega
 rcases hc4 with rfl | rfl | rfl | rfl
 all_goals
  go_enter Tryz.func222,Tryz.ntmps222
  go_wp2
  go_ret2
  exact ⟨rfl,rfl⟩
theorem cpages_in (hs:Sizes w) (x:Int) (h0:1 ≤ x) (h1:x ≤ 49) :
  Calls Tryz.prog 223 #[.int .i64 x] w fun e w'=>e=.returned (.tuple #[.int .i64 (pgOf x),.int .i64 0])∧w=w':=by
 by_cases h16:x ≤ 16
 ·obtain ⟨c,hc0,hc4,HC⟩:∃ c:Int,0 ≤ c∧c < 4∧Hid (clsOf x=c):=by
   rcases clsOf_case x h0 with ⟨_,h⟩ | ⟨_,_,h⟩ | ⟨_,_,h⟩ | ⟨_,_,h⟩ | ⟨h,_⟩
   ·exact ⟨0,by omega,by omega,h⟩
   ·exact ⟨1,by omega,by omega,h⟩
   ·exact ⟨2,by omega,by omega,h⟩
   ·exact ⟨3,by omega,by omega,h⟩
   ·omega
  rw [show pgOf x=1 from if_pos h16]
  have hd:(c != -1)=true:=by simp;omega
  go_enter Tryz.func223,Tryz.ntmps223
  go_wp2_with (go_at_call 221;refine (cof_in hs _ h0 h1).mono ?_;rintro e w1 ⟨rfl,rfl⟩;rw [HC.out])
  go_ret2
  exact ⟨rfl,rfl⟩
 ·have HC:Hid (clsOf x=-1):=Lib.hid (by have:=clsOf_case x h0;omega)
  rw [show pgOf x=(x + 15) / 16 from if_neg h16]
  go_enter Tryz.func223,Tryz.ntmps223
  go_wp2_with (go_at_call 221;refine (cof_in hs _ h0 h1).mono ?_;rintro e w1 ⟨rfl,rfl⟩;rw [HC.out])
  go_ret2
  exact ⟨by show Ending.returned (.tuple #[.int .i64 ((x + 16 - 1) / 16),.int .i64 0])=_;rw [show x + 16 - 1=x + 15 by omega],rfl⟩
theorem rcsize_in (c:Int) (h0:0 ≤ c) (h1:c < 4) :
  Calls Tryz.prog 80 #[.int .i64 c] w fun e w'=>e=.returned (.tuple #[.int .i64 (szOf c),.int .i64 0])∧w=w':=by
 have hc4:c=0 ∨ c=1 ∨ c=2 ∨ c=3:=by omega
 rcases hc4 with rfl | rfl | rfl | rfl
 all_goals
  go_enter Tryz.func80,Tryz.ntmps80
  go_wp2
  go_ret2
  exact ⟨rfl,rfl⟩
theorem rcsize_out (c:Int) (h:¬ (0 ≤ c∧c < 4)) :
  Calls Tryz.prog 80 #[.int .i64 c] w fun e w'=>e=.returned (.tuple #[.int .i64 0,.int .i64 1])∧w=w':=by
 have d0:(c == 0)=false:=by simp;omega
 have d1:(c == 1)=false:=by simp;omega
 have d2:(c == 2)=false:=by simp;omega
 have d3:(c == 3)=false:=by simp;omega
 clear h
 go_enter Tryz.func80,Tryz.ntmps80
 go_wp2
 go_ret2
 exact ⟨rfl,rfl⟩
set_option maxHeartbeats 1000000 in
theorem rcof_in (x:Int) (h0:1 ≤ x) (h1:x ≤ 49) :
  Calls Tryz.prog 79 #[.int .i64 x] w fun e w'=>e=.returned (.tuple #[.int .i64 (clsOf x),.int .i64 0])∧w=w':=by
 have hd:decide (x < 1)=false:=decide_eq_false (by omega)
 have hd1:decide (49 < x)=false:=decide_eq_false (by omega)
 obtain ⟨r,hr⟩:∃ r,Hid (clsOf x=r):=⟨_,rfl⟩
 have HC:=Lib.hid (clsOf_case x h0)
 rw [hr.out] at HC ⊢
 go_enter Tryz.func79,Tryz.ntmps79
 go_wp2
 go_loopw [4] (fun i wr=>∃ k:Nat,i=.int .i64 (k:Nat)∧k ≤ 4∧(0 < k → 2 < x)∧(1 < k → 4 < x)∧(2 < k → 8 < x)∧(3 < k → 16 < x)∧wr=w) (fun i _=>4 - (intOf i).toNat)
 case atStart=>exact ⟨0,rfl,by omega,by omega,by omega,by omega,by omega,rfl⟩
 case round=>
  obtain ⟨k,rfl,hk,k0,k1,k2,k3,rfl⟩:=hrel
  by_cases hlt:k < 4
  ·have hk4:k=0 ∨ k=1 ∨ k=2 ∨ k=3:=by omega
   rcases hk4 with rfl | rfl | rfl | rfl
   ·by_cases hx:x ≤ 2
    ·have e1:decide (x ≤ 2)=true:=decide_eq_true hx
     have hres:r=0:=by have:=HC.out;omega
     subst hres
     go_wp2_with (go_at_call 80;refine (rcsize_in 0 (by omega) (by omega)).mono ?_;rintro e w1 ⟨rfl,rfl⟩;simp only [szOf])
     go_ret2
     exact ⟨rfl,rfl⟩
    ·have e1:decide (x ≤ 2)=false:=decide_eq_false hx
     go_wp2_with (go_at_call 80;refine (rcsize_in 0 (by omega) (by omega)).mono ?_;rintro e w1 ⟨rfl,rfl⟩;simp only [szOf])
     go_roundw
     case rel=>exact ⟨1,rfl,by omega,by omega,by omega,by omega,by omega,by first | rfl | trivial⟩
     case measure=>simp [intOf]
   ·by_cases hx:x ≤ 4
    ·have e1:decide (x ≤ 4)=true:=decide_eq_true hx
     have hres:r=1:=by have:=HC.out;omega
     subst hres
     go_wp2_with (go_at_call 80;refine (rcsize_in 1 (by omega) (by omega)).mono ?_;rintro e w1 ⟨rfl,rfl⟩;simp only [szOf])
     go_ret2
     exact ⟨rfl,rfl⟩
    ·have e1:decide (x ≤ 4)=false:=decide_eq_false hx
     go_wp2_with (go_at_call 80;refine (rcsize_in 1 (by omega) (by omega)).mono ?_;rintro e w1 ⟨rfl,rfl⟩;simp only [szOf])
     go_roundw
     case rel=>exact ⟨2,rfl,by omega,by omega,by omega,by omega,by omega,by first | rfl | trivial⟩
     case measure=>simp [intOf]
   ·by_cases hx:x ≤ 8
    ·have e1:decide (x ≤ 8)=true:=decide_eq_true hx
     have hres:r=2:=by have:=HC.out;omega
     subst hres
     go_wp2_with (go_at_call 80;refine (rcsize_in 2 (by omega) (by omega)).mono ?_;rintro e w1 ⟨rfl,rfl⟩;simp only [szOf])
     go_ret2
     exact ⟨rfl,rfl⟩
    ·have e1:decide (x ≤ 8)=false:=decide_eq_false hx
     go_wp2_with (go_at_call 80;refine (rcsize_in 2 (by omega) (by omega)).mono ?_;rintro e w1 ⟨rfl,rfl⟩;simp only [szOf])
     go_roundw
     case rel=>exact ⟨3,rfl,by omega,by omega,by omega,by omega,by omega,by first | rfl | trivial⟩
     case measure=>simp [intOf]
   ·by_cases hx:x ≤ 16
    ·have e1:decide (x ≤ 16)=true:=decide_eq_true hx
     have hres:r=3:=by have:=HC.out;omega
     subst hres
     go_wp2_with (go_at_call 80;refine (rcsize_in 3 (by omega) (by omega)).mono ?_;rintro e w1 ⟨rfl,rfl⟩;simp only [szOf])
     go_ret2
     exact ⟨rfl,rfl⟩
    ·have e1:decide (x ≤ 16)=false:=decide_eq_false hx
     go_wp2_with (go_at_call 80;refine (rcsize_in 3 (by omega) (by omega)).mono ?_;rintro e w1 ⟨rfl,rfl⟩;simp only [szOf])
     go_roundw
     case rel=>exact ⟨4,rfl,by omega,by omega,by omega,by omega,by omega,by first | rfl | trivial⟩
     case measure=>simp [intOf]
  ·obtain rfl:k=4:=by omega
   have hres:r=-1:=by have:=HC.out;omega
   subst hres
   go_wp2
   go_ret2
   exact ⟨rfl,rfl⟩
theorem rcpages_in (x:Int) (h0:1 ≤ x) (h1:x ≤ 49) :
  Calls Tryz.prog 83 #[.int .i64 x] w fun e w'=>e=.returned (.tuple #[.int .i64 (pgOf x),.int .i64 0])∧w=w':=by
 by_cases h16:x ≤ 16
 ·obtain ⟨c,hc0,hc4,HC⟩:∃ c:Int,0 ≤ c∧c < 4∧Hid (clsOf x=c):=by
   rcases clsOf_case x h0 with ⟨_,h⟩ | ⟨_,_,h⟩ | ⟨_,_,h⟩ | ⟨_,_,h⟩ | ⟨h,_⟩
   ·exact ⟨0,by omega,by omega,h⟩
   ·exact ⟨1,by omega,by omega,h⟩
   ·exact ⟨2,by omega,by omega,h⟩
   ·exact ⟨3,by omega,by omega,h⟩
   ·omega
  rw [show pgOf x=1 from if_pos h16]
  have hd:decide (0 ≤ c)=true:=decide_eq_true hc0
  go_enter Tryz.func83,Tryz.ntmps83
  go_wp2_with (go_at_call 79;refine (rcof_in _ h0 h1).mono ?_;rintro e w1 ⟨rfl,rfl⟩;rw [HC.out])
  go_ret2
  exact ⟨rfl,rfl⟩
 ·have HC:Hid (clsOf x=-1):=Lib.hid (by have:=clsOf_case x h0;omega)
  rw [show pgOf x=(x + 15) / 16 from if_neg h16]
  obtain ⟨r,hr⟩:∃ r,Hid ((x + 15) / 16=r):=⟨_,rfl⟩
  rw [hr.out]
  have hr1:16 * r - 15 ≤ x + 0∧x ≤ 16 * r:=by have:=hr.out;omega
  go_enter Tryz.func83,Tryz.ntmps83
  go_wp2_with (go_at_call 79;refine (rcof_in _ h0 h1).mono ?_;rintro e w1 ⟨rfl,rfl⟩;rw [HC.out])
  go_loopw [6] (fun i wr=>∃ k:Nat,i=.int .i64 (k:Nat)∧(k:Int) ≤ r∧wr=w) (fun i _=>(r - intOf i).toNat)
  case atStart=>exact ⟨0,rfl,by omega,rfl⟩
  case round=>
   obtain ⟨k,rfl,hk,rfl⟩:=hrel
   by_cases hlt:(k:Int) * 16 < x
   ·have hd:decide ((k:Int) * 16 < x)=true:=decide_eq_true hlt
    go_wp2
    go_roundw
    case rel=>exact ⟨k + 1,by go_num,by omega,by first | rfl | trivial⟩
    case measure=>simp [intOf];omega
   ·have hd:decide ((k:Int) * 16 < x)=false:=decide_eq_false hlt
    obtain rfl:r=k:=by omega
    go_wp2
    go_ret2
    exact ⟨rfl,rfl⟩
end
end Go.Proofs.YtafpkaifaccehaaGreatDoor
namespace Go.Proofs.YtafpkaifaccehaaGreatDoor
open Go
def b2i (b:Bool):Int:=if b then 1 else 0
theorem countTo_succ (ws:List Nat) (n:Nat):((countTo ws (n + 1):Nat):Int)=(countTo ws n:Nat) + b2i (tb ws n):=by
 rw [countTo]
 cases tb ws n <;> simp [b2i]
theorem countTo_putW (ws:List Nat) (i:Nat) (v:Bool) (n:Nat) (hi:i < 64 * ws.length) :
  ((countTo (putW ws i v) n:Nat):Int)=(countTo ws n:Nat) + if i < n then b2i v - b2i (tb ws i) else 0:=by
 induction n with
 | zero=>simp [countTo]
 | succ n ih=>
  rw [countTo_succ,countTo_succ,tb_putW ws i n v hi,ih]
  by_cases e:n=i
  ·subst e
   rw [if_neg (show ¬ n < n by omega),if_pos (show n < n + 1 by omega),if_pos (show n=n from rfl)]
   omega
  ·rw [if_neg e]
   by_cases h:i < n
   ·rw [if_pos h,if_pos (show i < n + 1 by omega)];omega
   ·rw [if_neg h,if_neg (show ¬ i < n + 1 by omega)];omega
theorem zs_hit (ws:List Nat) (c m:Nat) (hc:1 ≤ c) (h:c ≤ zs ws m):∃ j,j ≤ m∧zs ws j=c:=by
 induction m with
 | zero=>simp [zs] at h;omega
 | succ m ih=>
  by_cases e:zs ws (m + 1)=c
  ·exact ⟨m + 1,Nat.le_refl _,e⟩
  ·have hz:zs ws (m + 1)=if tb ws m then 0 else zs ws m + 1:=rfl
   cases hb:tb ws m
   ·rw [hb] at hz
    simp only [Bool.false_eq_true,if_false] at hz
    obtain ⟨j,g1,g2⟩:=ih (by omega)
    exact ⟨j,by omega,g2⟩
   ·rw [hb] at hz
    simp only [if_true] at hz
    omega
end Go.Proofs.YtafpkaifaccehaaGreatDoor
namespace Go.Proofs.YtafpkaifaccehaaGreatDoor
open Go
def FitAt (ws:List Nat) (a m:Nat):Prop:=∀ j,a ≤ j → j < a + m → tb ws j=false
theorem FitAt.zero (ws:List Nat) (a:Nat):FitAt ws a 0:=fun j h1 h2=>by omega
theorem zs_ge (ws:List Nat) (a m:Nat) (h:FitAt ws a m):m ≤ zs ws (a + m):=by
 induction m with
 | zero=>exact Nat.zero_le _
 | succ m ih=>
  have:=ih fun j h1 h2=>h j h1 (by omega)
  have hb:=h (a + m) (by omega) (by omega)
  rw [← Nat.add_assoc,zs,hb]
  simpa using this
def FitP (ws:List Nat) (c n i why:Int):Prop:=
 (why=0∧0 ≤ i∧i + c ≤ n∧FitAt ws i.toNat c.toNat∧∀ j:Nat,(j:Int) < i → ¬ FitAt ws j c.toNat) ∨ (why=3∧i=0∧∀ j:Nat,(j:Int) + c ≤ n → ¬ FitAt ws j c.toNat)
theorem RunP.fit {ws:List Nat} {c n i why:Int} (h:RunP ws c n i why) (hc:1 ≤ c):FitP ws c n i why:=by
 rcases h with ⟨rfl,k,h1,h2,h3,rfl⟩ | ⟨rfl,rfl,h4⟩
 ·have hle:=zs_le ws (k + 1)
  refine .inl ⟨rfl,by omega,by omega,fun j g1 g2=>zs_zero ws (k + 1) j (by omega) (by omega),fun j g hf=>?_⟩
  have hz:=zs_ge ws j c.toNat hf
  obtain ⟨t,t1,t2⟩:=zs_hit ws c.toNat _ (by omega) hz
  exact h3 t (by omega) (by omega)
 ·refine .inr ⟨rfl,rfl,fun j g hf=>?_⟩
  have hz:=zs_ge ws j c.toNat hf
  obtain ⟨t,t1,t2⟩:=zs_hit ws c.toNat _ (by omega) hz
  exact h4 t (by omega) (by omega)
def best (ws:List Nat):Nat → Nat
 | 0=>0
 | k + 1=>max (best ws k) (zs ws (k + 1))
theorem best_ge (ws:List Nat) (k j:Nat) (h:j ≤ k):zs ws j ≤ best ws k:=by
 induction k with
 | zero=>obtain rfl:j=0:=by omega
         exact Nat.le_refl _
 | succ k ih=>
  rw [best]
  by_cases e:j=k + 1
  ·subst e;omega
  ·have:=ih (by omega);omega
theorem best_at (ws:List Nat) (k:Nat):∃ j,j ≤ k∧zs ws j=best ws k:=by
 induction k with
 | zero=>exact ⟨0,Nat.le_refl _,rfl⟩
 | succ k ih=>
  obtain ⟨j,h1,h2⟩:=ih
  rw [best]
  by_cases e:best ws k ≤ zs ws (k + 1)
  ·exact ⟨k + 1,Nat.le_refl _,by omega⟩
  ·exact ⟨j,by omega,by omega⟩
theorem best_le (ws:List Nat) (k:Nat):best ws k ≤ k:=by
 obtain ⟨j,h1,h2⟩:=best_at ws k
 have:=zs_le ws j
 omega
end Go.Proofs.YtafpkaifaccehaaGreatDoor
namespace Go.Proofs.YtafpkaifaccehaaGreatDoor
open Go.RowKit
theorem res_work {fn:Func} {p u:Tmp} (h:fn.results=#[.cell p 208,.tmp u]) {tmps:Array Value} {w:World} {g:Nat} {v0 v1:Value} (hp:tmps.getD p undef=.pointer (some ⟨g,0,none⟩))
  (h0:w.cell? ⟨g,0,none⟩=some v0) (h1:w.cell? ⟨g,1,none⟩=some v1):(results fn tmps).run Tryz.prog w=.ok (.tuple #[.agg #[v0,v1],tmps.getD u undef]) w:=by
 rw [results_cell_tmp h,hp]
 simp [go_sem,Result.andThen,h0,h1,asAddr]
theorem res_pages2 {fn:Func} {p u:Tmp} (h:fn.results=#[.cell p 28,.tmp u]) {tmps:Array Value} {w:World} {g:Nat} {v0 v1:Value} (hp:tmps.getD p undef=.pointer (some ⟨g,0,none⟩))
  (h0:w.cell? ⟨g,0,none⟩=some v0) (h1:w.cell? ⟨g,1,none⟩=some v1):(results fn tmps).run Tryz.prog w=.ok (.tuple #[.agg #[v0,v1],tmps.getD u undef]) w:=by
 rw [results_cell_tmp h,hp]
 simp [go_sem,Result.andThen,h0,h1,asAddr]
theorem res_pages1 {fn:Func} {p:Tmp} (h:fn.results=#[.cell p 28]) {tmps:Array Value} {w:World} {g:Nat} {v0 v1:Value} (hp:tmps.getD p undef=.pointer (some ⟨g,0,none⟩))
  (h0:w.cell? ⟨g,0,none⟩=some v0) (h1:w.cell? ⟨g,1,none⟩=some v1):(results fn tmps).run Tryz.prog w=.ok (.agg #[v0,v1]) w:=by
 have hp2:tmps[p]?.getD undef=.pointer (some ⟨g,0,none⟩):=by rw [← hp];simp
 simp only [results,h]
 simp [go_sem,Result.andThen,h0,h1,asAddr,hp2]
theorem res_pages3 {fn:Func} {p u x:Tmp} (h:fn.results=#[.cell p 28,.tmp u,.tmp x]) {tmps:Array Value} {w:World} {g:Nat} {v0 v1:Value} (hp:tmps.getD p undef=.pointer (some ⟨g,0,none⟩))
  (h0:w.cell? ⟨g,0,none⟩=some v0) (h1:w.cell? ⟨g,1,none⟩=some v1):(results fn tmps).run Tryz.prog w=.ok (.tuple #[.agg #[v0,v1],tmps.getD u undef,tmps.getD x undef]) w:=by
 have hp2:tmps[p]?.getD undef=.pointer (some ⟨g,0,none⟩):=by rw [← hp];simp
 simp only [results,h]
 simp [go_sem,Result.andThen,h0,h1,asAddr,hp2]
section
variable {n:Int} {A:Option Addr} {ws:List Nat} {w:World} (cap:Nat)
theorem pcheck_ok (hr:Row w w.heap.size A ws) (h:Right n ws) :
  Calls Tryz.prog 215 #[.agg #[.int .i64 n,.slice A ws.length cap]] w fun e w'=>e=.returned (.int .i64 0)∧Below w.heap.size w w':=by
 have hR:=Lib.hid h
 clear h
 go_enter Tryz.func215,Tryz.ntmps215
 go_wp2_with (go_at_call 213;refine (check_ok _ (hr.later bX) hR.out).mono ?_;rintro e w1 ⟨rfl,hb_w1⟩;obtain ⟨hc_w1,hf_w1⟩:=bcell hb_w1;have hz_w1_w_0:w.heap.size < w1.heap.size:=lY hb_w1.size)
 go_ret
 exact ⟨rfl,bX⟩
theorem pcheck_bad (hr:Row w w.heap.size A ws) (h:¬ Right n ws) :
  Calls Tryz.prog 215 #[.agg #[.int .i64 n,.slice A ws.length cap]] w fun e w'=>e=.returned (.int .i64 2)∧Below w.heap.size w w':=by
 have hR:=Lib.hid h
 clear h
 go_enter Tryz.func215,Tryz.ntmps215
 go_wp2_with (go_at_call 213;refine (check_bad _ (hr.later bX) hR.out).mono ?_;rintro e w1 ⟨rfl,hb_w1⟩;obtain ⟨hc_w1,hf_w1⟩:=bcell hb_w1;have hz_w1_w_0:w.heap.size < w1.heap.size:=lY hb_w1.size)
 go_ret
 exact ⟨rfl,bX⟩
theorem rpcheck_ok (hr:Row w w.heap.size A ws) (h:Right n ws) :
  Calls Tryz.prog 164 #[.agg #[.int .i64 n,.slice A ws.length cap]] w fun e w'=>e=.returned (.int .i64 0)∧Below w.heap.size w w':=by
 have hR:=Lib.hid h
 clear h
 go_enter Tryz.func164,Tryz.ntmps164
 go_wp2_with (go_at_call 145;refine (rcheck_ok _ (hr.later bX) hR.out).mono ?_;rintro e w1 ⟨rfl,hb_w1⟩;obtain ⟨hc_w1,hf_w1⟩:=bcell hb_w1;have hz_w1_w_0:w.heap.size < w1.heap.size:=lY hb_w1.size)
 go_ret
 exact ⟨rfl,bX⟩
theorem rpcheck_bad (hr:Row w w.heap.size A ws) (h:¬ Right n ws) :
  Calls Tryz.prog 164 #[.agg #[.int .i64 n,.slice A ws.length cap]] w fun e w'=>e=.returned (.int .i64 2)∧Below w.heap.size w w':=by
 have hR:=Lib.hid h
 clear h
 go_enter Tryz.func164,Tryz.ntmps164
 go_wp2_with (go_at_call 145;refine (rcheck_bad _ (hr.later bX) hR.out).mono ?_;rintro e w1 ⟨rfl,hb_w1⟩;obtain ⟨hc_w1,hf_w1⟩:=bcell hb_w1;have hz_w1_w_0:w.heap.size < w1.heap.size:=lY hb_w1.size)
 go_ret
 exact ⟨rfl,bX⟩
theorem pview_ok (hr:Row w w.heap.size A ws) (h:Right n ws) :
  Calls Tryz.prog 148 #[.agg #[.int .i64 n,.slice A ws.length cap]] w fun e w'=>e=.returned (.tuple #[.agg #[.int .i64 n,.slice A ws.length cap],.int .i64 0])∧Below w.heap.size w w':=by
 have hR:=Lib.hid h
 clear h
 go_enter Tryz.func148,Tryz.ntmps148
 go_wp2_with (go_at_call 215;refine (pcheck_ok _ (hr.later bX) hR.out).mono ?_;rintro e w1 ⟨rfl,hb_w1⟩;obtain ⟨hc_w1,hf_w1⟩:=bcell hb_w1;have hz_w1_w_0:w.heap.size < w1.heap.size:=lY hb_w1.size;have hz_w1_w_1:w.heap.size + 1 < w1.heap.size:=lY hb_w1.size)
 have k0:w1.cell? ⟨w.heap.size + 1,0,none⟩=_:=(hc_w1 _ _ (by simp)).trans (by simp [go_sem];rfl)
 have k1:w1.cell? ⟨w.heap.size + 1,1,none⟩=_:=(hc_w1 _ _ (by simp)).trans (by simp [go_sem];rfl)
 exact bodyPost_ret (res_work rfl rfl (set_two _ _ k0 k1).1 (set_two _ _ k0 k1).2) rfl ⟨rfl,bX⟩
theorem marked_in (a c:Int) (v:Bool) (hr:Row w w.heap.size A ws) (h:Right n ws) (h0:0 ≤ a) (h1:0 ≤ c) (h2:c ≤ n - a) :
  Calls Tryz.prog 170 #[.agg #[.int .i64 n,.slice A ws.length cap],.int .i64 a,.int .i64 c,.bool v] w fun e w'=>Copied w n (fillW ws a.toNat c.toNat v) e w':=by
 have hR:=Lib.hid h
 clear h
 go_enter Tryz.func170,Tryz.ntmps170
 go_wp2_with (go_at_call 182;refine (fill_in _ _ _ _ (hr.later bX) hR.out h0 h1 h2).mono ?_;rintro e w1 ⟨A1,cap1,rfl,ho1,hb_w1⟩;obtain ⟨hc_w1,hf_w1⟩:=bcell hb_w1;have hz_w1_w_0:w.heap.size < w1.heap.size:=lY hb_w1.size;have hz_w1_w_1:w.heap.size + 1 < w1.heap.size:=lY hb_w1.size)
 have k0:w1.cell? ⟨w.heap.size + 1,0,none⟩=_:=(hc_w1 _ _ lX).trans (by simp [go_sem];rfl)
 have k1:w1.cell? ⟨w.heap.size + 1,1,none⟩=_:=(hc_w1 _ _ lX).trans (by simp [go_sem];rfl)
 exact bodyPost_ret (res_pages1 rfl rfl ((World.cell?_alloc_lt _ _ ⟨_,_,_⟩ lX).trans (set_two _ _ k0 k1).1) ((World.cell?_alloc_lt _ _ ⟨_,_,_⟩ lX).trans (set_two _ _ k0 k1).2)) rfl ⟨A1,cap1,rfl,((ho1.two (g:=w.heap.size + 1) lX).later bX).mono lX,bX⟩
theorem ptwin_ok (hr:Row w w.heap.size A ws) (h:Right n ws) :
  Calls Tryz.prog 169 #[.agg #[.int .i64 n,.slice A ws.length cap]] w fun e w'=>Copied w n ws e w':=by
 have hn:=h.1
 have hR:=Lib.hid h
 clear h
 go_enter Tryz.func169,Tryz.ntmps169
 go_wp2_with (go_at_call 170;refine (marked_in cap 0 0 true (hr.later bX) hR.out (by omega) (by omega) (by omega)).mono ?_;rintro e w1 ⟨A1,cap1,rfl,ho1,hb_w1⟩;obtain ⟨hc_w1,hf_w1⟩:=bcell hb_w1;have hz_w1_w_0:w.heap.size < w1.heap.size:=lY hb_w1.size;have hz_w1_w_1:w.heap.size + 1 < w1.heap.size:=lY hb_w1.size)
 have k0:w1.cell? ⟨w.heap.size + 1,0,none⟩=_:=(hc_w1 _ _ lX).trans (by simp [go_sem];rfl)
 have k1:w1.cell? ⟨w.heap.size + 1,1,none⟩=_:=(hc_w1 _ _ lX).trans (by simp [go_sem];rfl)
 exact bodyPost_ret (res_pages1 rfl rfl (set_two _ _ k0 k1).1 (set_two _ _ k0 k1).2) rfl ⟨A1,cap1,rfl,(ho1.two (g:=w.heap.size + 1) lX).mono lX,bX⟩
theorem phas_any (len:Nat) (a c:Int) (hn:0 ≤ n) (hn2:n ≤ 4096) (ha:a ≤ 9223372036854775807) :
  Calls Tryz.prog 269 #[.agg #[.int .i64 n,.slice A len cap],.int .i64 a,.int .i64 c] w fun e w'=>e=.returned (.bool (decide (0 ≤ a∧1 ≤ c∧c ≤ n - a)))∧Below w.heap.size w w':=by
 by_cases h0:0 ≤ a
 ·have hd:decide (0 ≤ a)=true:=by simpa using h0
  by_cases h1:1 ≤ c
  ·have hd1:decide (1 ≤ c)=true:=by simpa using h1
   have e:decide (c ≤ n - a)=decide (0 ≤ a∧1 ≤ c∧c ≤ n - a):=by simp only [h0,h1,true_and]
   rw [← e]
   clear e
   go_enter Tryz.func269,Tryz.ntmps269
   go_wp2
   go_ret
   exact ⟨rfl,bX⟩
  ·have hd1:decide (1 ≤ c)=false:=by simpa using h1
   have e:decide (0 ≤ a∧1 ≤ c∧c ≤ n - a)=false:=by simp;omega
   rw [e]
   clear e
   go_enter Tryz.func269,Tryz.ntmps269
   go_wp2
   go_ret
   exact ⟨rfl,bX⟩
 ·have hd:decide (0 ≤ a)=false:=by simpa using h0
  have e:decide (0 ≤ a∧1 ≤ c∧c ≤ n - a)=false:=by simp;omega
  rw [e]
  clear e
  go_enter Tryz.func269,Tryz.ntmps269
  go_wp2
  go_ret
  exact ⟨rfl,bX⟩
def NextP (ws:List Nat) (v:Bool) (a n i:Int):Prop:=a ≤ i∧i ≤ n∧(∀ j:Nat,a ≤ j → (j:Int) < i → tb ws j ≠ v)∧(i < n → tb ws i.toNat=v)
theorem pnext_any (a:Int) (v:Bool) (hr:Row w w.heap.size A ws) (h:Right n ws) (h0:0 ≤ a) (h1:a ≤ n) :
  Calls Tryz.prog 149 #[.agg #[.int .i64 n,.slice A ws.length cap],.int .i64 a,.bool v] w fun e w'=>(∃ i,e=.returned (.int .i64 i)∧NextP ws v a n i)∧Below w.heap.size w w':=by
 have hR:=Lib.hid h
 clear h
 go_enter Tryz.func149,Tryz.ntmps149
 go_wp2_with fail
 go_at_call 206
 refine (first_in cap a v (hr.later bX) hR.out h0 h1).mono ?_
 rintro e w1 ⟨⟨i,why,rfl,hp⟩,hb_w1⟩
 obtain ⟨hc_w1,hf_w1⟩:=bcell hb_w1;have hz_w1_w_0:w.heap.size < w1.heap.size:=lY hb_w1.size;have hs_w1:=hb_w1.size;(try simp only [zZ] at hs_w1)
 rcases hp with ⟨rfl,p1,p2,p3,p4⟩ | ⟨rfl,rfl,p4⟩
 ·have HP:=Lib.hid p4
  clear p4
  go_wp2
  go_ret
  exact ⟨⟨i,rfl,p1,by omega,HP.out,fun _=>p3⟩,bX⟩
 ·have HP:=Lib.hid p4
  clear p4
  go_wp2
  go_ret
  exact ⟨⟨n,rfl,h1,Int.le_refl _,HP.out,fun hh=>absurd hh (by omega)⟩,bX⟩
end
theorem pmake_ok (n:Int) (w:World) (h0:0 ≤ n) (h1:n ≤ 4096):Calls Tryz.prog 88 #[.int .i64 n] w fun e w'=>Fresh w n (wordsN n) 0 e w':=by
 go_enter Tryz.func88,Tryz.ntmps88
 go_wp2_with (go_at_call 122;refine (make_ok n _ h0 h1).mono ?_;rintro e w1 ⟨A1,cap1,rfl,ho1,hb_w1⟩;obtain ⟨hc_w1,hf_w1⟩:=bcell hb_w1;have hz_w1_w_0:w.heap.size < w1.heap.size:=lY hb_w1.size)
 have k0:w1.cell? ⟨w.heap.size,0,none⟩=_:=(hc_w1 _ _ lX).trans (by simp [go_sem];rfl)
 have k1:w1.cell? ⟨w.heap.size,1,none⟩=_:=(hc_w1 _ _ lX).trans (by simp [go_sem];rfl)
 exact bodyPost_ret (res_pages2 rfl rfl ((World.cell?_alloc_lt _ _ ⟨_,_,_⟩ lX).trans (set_two _ _ k0 k1).1) ((World.cell?_alloc_lt _ _ ⟨_,_,_⟩ lX).trans (set_two _ _ k0 k1).2)) rfl ⟨A1,cap1,rfl,((ho1.two (g:=w.heap.size) lX).later bX).mono lX,bX⟩
structure Sd where
 f:Int
 p:Int
 z:Int
 an:Int
 aw:List Nat
 mn:Int
 mw:List Nat
 s:Bool
def spv (d:Sd) (A:Option Addr) (ca:Nat) (M:Option Addr) (cm:Nat):Value:=
 .agg #[.int .i64 d.f,.int .i64 d.p,.int .i64 d.z,.int .i64 d.an,.slice A d.aw.length ca,.int .i64 d.mn,.slice M d.mw.length cm,.bool d.s]
def Sized (p z:Int):Prop:=((z=2 ∨ z=4 ∨ z=8 ∨ z=16)∧p=1) ∨ (z=0∧2 ≤ p∧p ≤ 4)
instance (p z:Int):Decidable (Sized p z):=inferInstanceAs (Decidable (_ ∨ _))
def Placed (f p:Int):Prop:=0 ≤ f∧f + p ≤ 1024
instance (f p:Int):Decidable (Placed f p):=inferInstanceAs (Decidable (_∧_))
def slotsOf (z:Int):Int:=if z=0 then 1 else 16 / z
theorem Sized.slots {p z:Int} (h:Sized p z):1 ≤ slotsOf z∧slotsOf z ≤ 8∧slotsOf z * z ≤ 16∧0 ≤ z∧z ≤ 16∧1 ≤ p∧p ≤ 4:=by
 rcases h with ⟨rfl | rfl | rfl | rfl,rfl⟩ | ⟨rfl,h1,h2⟩
 all_goals
  simp [slotsOf]
  try omega
structure Ok1 (d:Sd):Prop where
 sized:Sized d.p d.z
 placed:Placed d.f d.p
 a:Right d.an d.aw
 an:d.an=slotsOf d.z
 m:Right d.mn d.mw
 mn:d.mn=slotsOf d.z
 sub:∀ i,i < (slotsOf d.z).toNat → tb d.mw i=true → tb d.aw i=true
theorem Ok1.aw {d:Sd} (h:Ok1 d):d.aw.length=1:=by
 have:=h.a.2.2.1
 have:=h.an
 have:=h.sized.slots
 omega
theorem Ok1.mw {d:Sd} (h:Ok1 d):d.mw.length=1:=by
 have:=h.m.2.2.1
 have:=h.mn
 have:=h.sized.slots
 omega
section
variable {w:World} (d:Sd) (A:Option Addr) (ca:Nat) (M:Option Addr) (cm:Nat)
theorem sslots_any {p:Int} (h:Sized p d.z):Calls Tryz.prog 228 #[spv d A ca M cm] w fun e w'=>e=.returned (.int .i64 (slotsOf d.z))∧Below w.heap.size w w':=by
 obtain ⟨f,p',z,an,aw,mn,mw,s⟩:=d
 simp only at h
 unfold spv
 simp only
 rcases h with ⟨rfl | rfl | rfl | rfl,rfl⟩ | ⟨rfl,h1,h2⟩
 all_goals
  go_enter Tryz.func228,Tryz.ntmps228
  go_wp2
  go_ret
  exact ⟨rfl,bX⟩
theorem sbehind_any (h:-9000000000000000000 ≤ d.f∧d.f ≤ 9000000000000000000) (hp:0 ≤ d.p∧d.p ≤ 4):Calls Tryz.prog 252 #[spv d A ca M cm] w fun e w'=>e=.returned (.int .i64 (d.f + d.p))∧Below w.heap.size w w':=by
 obtain ⟨f,p',z,an,aw,mn,mw,s⟩:=d
 simp only at h hp
 unfold spv
 simp only
 go_enter Tryz.func252,Tryz.ntmps252
 go_wp2
 go_ret
 exact ⟨rfl,bX⟩
theorem spage_any (n:Int) (h0:0 ≤ n) (h1:n ≤ 2000):Calls Tryz.prog 262 #[.int .i64 n] w fun e w'=>e=.returned (.int .u64 (n * 16))∧w=w':=by
 go_enter Tryz.func262,Tryz.ntmps262
 go_wp2
 go_ret
 exact ⟨rfl,rfl⟩
theorem saddress_any (k:Int) (h0:0 ≤ d.f) (h1:d.f ≤ 1024) (hz:0 ≤ d.z∧d.z ≤ 16) (k0:0 ≤ k) (k1:k ≤ 100) (m:Int) (hm:k * d.z=m) (hm0:0 ≤ m) (hm1:m ≤ 1600):Calls Tryz.prog 229 #[spv d A ca M cm,.int .i64 k] w fun e w'=>e=.returned (.int .u64 (d.f * 16 + m))∧Below w.heap.size w w':=by
 obtain ⟨f,p',z,an,aw,mn,mw,s⟩:=d
 simp only at h0 h1 hz hm
 unfold spv
 simp only
 have hmw:IntKind.i64.wrap m=m:=by rw [IntWalk.i64_in _ (by omega)]
 have hmu:IntKind.u64.wrap m=m:=by rw [IntKind.wrap_u64];omega
 have hms:IntKind.u64.wrap (f * 16 + m)=f * 16 + m:=by rw [IntKind.wrap_u64];omega
 go_enter Tryz.func229,Tryz.ntmps229
 go_wp2_with fail
 go_region_held3 (fun X:World=>X.cell? ⟨w.heap.size,0,none⟩=some (.int .i64 f)∧X.cell? ⟨w.heap.size,2,none⟩=some (.int .i64 z))
  ((refine ⟨?_,?_⟩ <;> first | assumption | (simp [go_sem];done)))
  ((go_at_call 262;refine (spage_any f (by omega) (by omega)).mono ?_;rintro e w1 ⟨rfl,rfl⟩))
 all_goals
  go_wp2
  go_ret
  exact ⟨rfl,bX⟩
theorem ssized_any (b:Bool) (hb:decide (Sized d.p d.z)=b):Calls Tryz.prog 258 #[spv d A ca M cm] w fun e w'=>e=.returned (.bool b)∧Below w.heap.size w w':=by
 obtain ⟨f,p,z,an,aw,mn,mw,s⟩:=d
 simp only at hb
 unfold spv
 simp only
 subst hb
 by_cases h0:z=0
 ·subst h0
  by_cases h2:2 ≤ p
  ·have d2:decide (2 ≤ p)=true:=decide_eq_true h2
   by_cases h4:p ≤ 4
   ·have d4:decide (p ≤ 4)=true:=decide_eq_true h4
    rw [show decide (Sized p 0)=true from decide_eq_true (.inr ⟨rfl,h2,h4⟩)]
    go_enter Tryz.func258,Tryz.ntmps258
    go_wp2
    go_ret
    exact ⟨rfl,bX⟩
   ·have d4:decide (p ≤ 4)=false:=decide_eq_false h4
    rw [show decide (Sized p 0)=false from decide_eq_false (by unfold Sized;omega)]
    go_enter Tryz.func258,Tryz.ntmps258
    go_wp2
    go_ret
    exact ⟨rfl,bX⟩
  ·have d2:decide (2 ≤ p)=false:=decide_eq_false h2
   rw [show decide (Sized p 0)=false from decide_eq_false (by unfold Sized;omega)]
   go_enter Tryz.func258,Tryz.ntmps258
   go_wp2
   go_ret
   exact ⟨rfl,bX⟩
 ·have e0:(z == 0)=false:=by simpa using h0
  by_cases hz:z=2 ∨ z=4 ∨ z=8 ∨ z=16
  ·have hB:decide (Sized p z)=(p == 1):=by
    rw [Bool.eq_iff_iff]
    simp only [decide_eq_true_eq,beq_iff_eq]
    unfold Sized
    omega
   rw [hB]
   clear hB e0
   rcases hz with rfl | rfl | rfl | rfl
   all_goals
    go_enter Tryz.func258,Tryz.ntmps258
    go_wp2
    go_ret
    exact ⟨rfl,bX⟩
  ·have e2:(z == 2)=false:=by simp;omega
   have e4:(z == 4)=false:=by simp;omega
   have e8:(z == 8)=false:=by simp;omega
   have e16:(z == 16)=false:=by simp;omega
   rw [show decide (Sized p z)=false from decide_eq_false (by unfold Sized;omega)]
   clear hz
   go_enter Tryz.func258,Tryz.ntmps258
   go_wp2
   go_ret
   exact ⟨rfl,bX⟩
theorem splaced_any (hp:1 ≤ d.p∧d.p ≤ 4) (b:Bool) (hb:decide (Placed d.f d.p)=b):Calls Tryz.prog 259 #[spv d A ca M cm] w fun e w'=>e=.returned (.bool b)∧Below w.heap.size w w':=by
 obtain ⟨f,p,z,an,aw,mn,mw,s⟩:=d
 simp only at hb hp
 unfold spv
 simp only
 subst hb
 have ew:IntKind.i64.wrap (1024 - p)=1024 - p:=by rw [IntWalk.i64_in _ (by omega)]
 by_cases h0:0 ≤ f
 ·have d0:decide (0 ≤ f)=true:=decide_eq_true h0
  by_cases h1:f ≤ 1024 - p
  ·have d1:decide (f ≤ 1024 - p)=true:=decide_eq_true h1
   rw [show decide (Placed f p)=true from decide_eq_true ⟨h0,by omega⟩]
   go_enter Tryz.func259,Tryz.ntmps259
   go_wp2
   go_ret
   exact ⟨rfl,bX⟩
  ·have d1:decide (f ≤ 1024 - p)=false:=decide_eq_false h1
   rw [show decide (Placed f p)=false from decide_eq_false (by unfold Placed;omega)]
   go_enter Tryz.func259,Tryz.ntmps259
   go_wp2
   go_ret
   exact ⟨rfl,bX⟩
 ·have d0:decide (0 ≤ f)=false:=decide_eq_false h0
  rw [show decide (Placed f p)=false from decide_eq_false (by unfold Placed;omega)]
  go_enter Tryz.func259,Tryz.ntmps259
  go_wp2
  go_ret
  exact ⟨rfl,bX⟩
end
structure Sp8 (w:World) (g o:Nat) (d:Sd) (A:Option Addr) (ca:Nat) (M:Option Addr) (cm:Nat):Prop where
 c0:w.cell? ⟨g,o,none⟩=some (.int .i64 d.f)
 c1:w.cell? ⟨g,o + 1,none⟩=some (.int .i64 d.p)
 c2:w.cell? ⟨g,o + 2,none⟩=some (.int .i64 d.z)
 c3:w.cell? ⟨g,o + 3,none⟩=some (.int .i64 d.an)
 c4:w.cell? ⟨g,o + 4,none⟩=some (.slice A d.aw.length ca)
 c5:w.cell? ⟨g,o + 5,none⟩=some (.int .i64 d.mn)
 c6:w.cell? ⟨g,o + 6,none⟩=some (.slice M d.mw.length cm)
 c7:w.cell? ⟨g,o + 7,none⟩=some (.bool d.s)
theorem Sp8.lt {w:World} {g o ca cm:Nat} {d:Sd} {A M:Option Addr} (h:Sp8 w g o d A ca M cm):g < w.heap.size:=World.block_lt_of_cell? w _ h.c0
theorem Sp8.below {w w':World} {B g o ca cm:Nat} {d:Sd} {A M:Option Addr} (h:Sp8 w g o d A ca M cm) (hb:Below B w w') (hg:g < B):Sp8 w' g o d A ca M cm:=
 ⟨((bcell hb).1 _ _ hg).trans h.c0,((bcell hb).1 _ _ hg).trans h.c1,((bcell hb).1 _ _ hg).trans h.c2,((bcell hb).1 _ _ hg).trans h.c3,((bcell hb).1 _ _ hg).trans h.c4,((bcell hb).1 _ _ hg).trans h.c5,((bcell hb).1 _ _ hg).trans h.c6,((bcell hb).1 _ _ hg).trans h.c7⟩
theorem Sp8.later {w w':World} {g o ca cm:Nat} {d:Sd} {A M:Option Addr} (h:Sp8 w g o d A ca M cm) (hb:Below w.heap.size w w'):Sp8 w' g o d A ca M cm:=h.below hb h.lt
theorem Sp8.new (w:World) (d:Sd) (A:Option Addr) (ca:Nat) (M:Option Addr) (cm:Nat) (t:TypeId) :
  Sp8 (w.alloc (.cells #[.int .i64 d.f,.int .i64 d.p,.int .i64 d.z,.int .i64 d.an,.slice A d.aw.length ca,.int .i64 d.mn,.slice M d.mw.length cm,.bool d.s] t)) w.heap.size 0 d A ca M cm:=by
 constructor <;> simp [go_sem]
def Rec (d:Sd):Prop:=d.an=slotsOf d.z∧d.mn=slotsOf d.z∧Right d.an d.aw∧Right d.mn d.mw∧∀ i,i < (slotsOf d.z).toNat → tb d.mw i=true → tb d.aw i=true
theorem ok1_iff (d:Sd):Ok1 d ↔ (Sized d.p d.z∧Placed d.f d.p∧Rec d):=
 ⟨fun h=>⟨h.sized,h.placed,h.an,h.mn,h.a,h.m,h.sub⟩,fun ⟨h1,h2,h3,h4,h5,h6,h7⟩=>⟨h1,h2,h5,h3,h6,h4,h7⟩⟩
theorem andNot_zero (x y:Nat) (hx:x < W64) (hy:y < W64) :
  (Go.bits .andNot .u64 (x:Int) (y:Int) == 0)=true ↔ ∀ i,i < 64 → x.testBit i=true → y.testBit i=true:=by
 have hx':x < 18446744073709551616:=hx
 have hy':y < 2 ^ 64:=hy
 rw [u64_andNot_nat x y hx' hy',beq_iff_eq]
 have e:(18446744073709551615 - y:Nat)=2 ^ 64 - (y + 1):=by omega
 rw [e]
 constructor
 ·intro h i hi hb
  have h':x &&& (2 ^ 64 - (y + 1))=0:=by omega
  have h2:=congrArg (fun v=>Nat.testBit v i) h'
  simp only [Nat.testBit_and,Nat.testBit_two_pow_sub_succ hy',hb,Nat.zero_testBit,Bool.true_and] at h2
  simpa [hi] using h2
 ·intro h
  have h':x &&& (2 ^ 64 - (y + 1))=0:=by
   apply Nat.eq_of_testBit_eq
   intro j
   rw [Nat.testBit_and,Nat.testBit_two_pow_sub_succ hy',Nat.zero_testBit]
   by_cases hj:j < 64
   ·cases hxj:x.testBit j
    ·rfl
    ·simp [h j hj hxj]
   ·simp [hj]
  rw [h']
  rfl
theorem sub_iff {n:Int} {aw mw:List Nat} (h1:1 ≤ n) (h8:n ≤ 8) (ha:Right n aw) (hm:Right n mw) :
  (∀ i,i < 64 → (mw.getD 0 0).testBit i=true → (aw.getD 0 0).testBit i=true) ↔ (∀ i,i < n.toNat → tb mw i=true → tb aw i=true):=by
 have la:aw.length=1:=by have:=ha.2.2.1;omega
 have lm:mw.length=1:=by have:=hm.2.2.1;omega
 have ea:∀ i,i < 64 → tb aw i=(aw.getD 0 0).testBit i:=fun i hi=>by unfold tb;rw [show i / 64=0 by omega,show i % 64=i by omega]
 have em:∀ i,i < 64 → tb mw i=(mw.getD 0 0).testBit i:=fun i hi=>by unfold tb;rw [show i / 64=0 by omega,show i % 64=i by omega]
 constructor
 ·intro h i hi hb
  rw [ea i (by omega)]
  rw [em i (by omega)] at hb
  exact h i (by omega) hb
 ·intro h i hi hb
  rw [← em i hi] at hb
  rw [← ea i hi]
  by_cases hn:i < n.toNat
  ·exact h i hn hb
  ·rw [hm.2.2.2 i (by omega) (by omega)] at hb
   cases hb
section
variable {w:World} {d:Sd} {A M:Option Addr} (ca cm:Nat)
set_option maxHeartbeats 1000000 in
theorem srecorded_any {p:Int} (h:Sized p d.z) (hA:Row w w.heap.size A d.aw) (hM:Row w w.heap.size M d.mw) (b:Bool) (hb:b=true ↔ Rec d) :
  Calls Tryz.prog 281 #[spv d A ca M cm] w fun e w'=>e=.returned (.bool b)∧Below w.heap.size w w':=by
 have hs:=h.slots
 have S:=fun (w:World)=>sslots_any (w:=w) d A ca M cm h
 have SS:=Lib.hid S
 clear h S
 unfold Rec at hb
 obtain ⟨f,p',z,an,aw,mn,mw,s⟩:=d
 simp only at hb hs hA hM SS
 generalize slotsOf z=n at hb SS hs
 unfold spv at SS ⊢
 simp only at SS ⊢
 by_cases h1:an=n
 ·subst h1
  have d1:(an != an)=false:=bne_self_eq_false _
  by_cases h2:mn=an
  ·subst h2
   by_cases h3:Right mn aw
   ·have H3:=Lib.hid h3
    by_cases h4:Right mn mw
    ·have H4:=Lib.hid h4
     have la:0 < aw.length:=by have:=h3.2.2.1;omega
     have lm:0 < mw.length:=by have:=h4.2.2.1;omega
     have hsub:=sub_iff hs.1 hs.2.1 h3 h4
     have hz:=andNot_zero (mw.getD 0 0) (aw.getD 0 0) (hM.words.at_ 0) (hA.words.at_ 0)
     have hbb:(Go.bits .andNot .u64 ((mw.getD 0 0:Nat):Int) ((aw.getD 0 0:Nat):Int) == 0)=b:=by
      rw [Bool.eq_iff_iff,hz,hb,hsub]
      exact ⟨fun h=>⟨rfl,rfl,h3,h4,h⟩,fun h=>h.2.2.2.2⟩
     obtain ⟨ba,oa,rfl,hba,hca⟩:=hA.at_ (by omega)
     obtain ⟨bm,om,rfl,hbm,hcm⟩:=hM.at_ (by omega)
     have ka:=hca 0 (by omega)
     have km:=hcm 0 (by omega)
     obtain ⟨x,hx⟩:∃ x,Hid (aw.getD 0 0=x):=⟨_,rfl⟩
     obtain ⟨y,hy⟩:∃ y,Hid (mw.getD 0 0=y):=⟨_,rfl⟩
     rw [hx.out] at ka hbb
     rw [hy.out] at km hbb
     have ia:(0:Int) < (aw.length:Int):=by omega
     have im:(0:Int) < (mw.length:Int):=by omega
     clear hb hsub hz h3 h4 hca hcm
     go_enter Tryz.func281,Tryz.ntmps281
     go_wp2_with fail
     go_at_call 228
     refine (SS.out _).mono ?_
     rintro e w1 ⟨rfl,hb_w1⟩
     obtain ⟨hc_w1,hf_w1⟩:=bcell hb_w1;have hz_w1_w_0:w.heap.size < w1.heap.size:=lY hb_w1.size;have hs_w1:=hb_w1.size;(try simp only [zZ] at hs_w1)
     go_wp2_with fail
     go_at_call 213
     refine (check_ok ca (hA.later bX) H3.out).mono ?_
     rintro e w2 ⟨rfl,hb_w2⟩
     obtain ⟨hc_w2,hf_w2⟩:=bcell hb_w2;have hz_w2_w_0:w.heap.size < w2.heap.size:=lY hb_w2.size;have hs_w2:=hb_w2.size;(try simp only [zZ] at hs_w2)
     go_wp2_with fail
     go_at_call 213
     refine (check_ok cm (hM.later bX) H4.out).mono ?_
     rintro e w3 ⟨rfl,hb_w3⟩
     obtain ⟨hc_w3,hf_w3⟩:=bcell hb_w3;have hz_w3_w_0:w.heap.size < w3.heap.size:=lY hb_w3.size;have hs_w3:=hb_w3.size;(try simp only [zZ] at hs_w3)
     have ka3:w3.cell? ⟨ba,oa,none⟩=_:=(hc_w3 _ _ lX).trans ((hc_w2 _ _ lX).trans ((hc_w1 _ _ lX).trans ((World.cell?_alloc_lt _ _ ⟨_,_,_⟩ hba).trans ka)))
     have km3:w3.cell? ⟨bm,om,none⟩=_:=(hc_w3 _ _ lX).trans ((hc_w2 _ _ lX).trans ((hc_w1 _ _ lX).trans ((World.cell?_alloc_lt _ _ ⟨_,_,_⟩ hbm).trans km)))
     have k4:w3.cell? ⟨w.heap.size,4,none⟩=some (.slice (some ⟨ba,oa,none⟩) aw.length ca):=(hc_w3 _ _ lX).trans ((hc_w2 _ _ lX).trans ((hc_w1 _ _ lX).trans (by simp [go_sem])))
     have k6:w3.cell? ⟨w.heap.size,6,none⟩=some (.slice (some ⟨bm,om,none⟩) mw.length cm):=(hc_w3 _ _ lX).trans ((hc_w2 _ _ lX).trans ((hc_w1 _ _ lX).trans (by simp [go_sem])))
     go_wp2_with fail
     go_region_held3 (fun X:World=>X.cell? ⟨w.heap.size,4,none⟩=some (.slice (some ⟨ba,oa,none⟩) aw.length ca)∧X.cell? ⟨w.heap.size,6,none⟩=some (.slice (some ⟨bm,om,none⟩) mw.length cm)∧X.cell? ⟨ba,oa,none⟩=some (.int .u64 (x:Nat))∧X.cell? ⟨bm,om,none⟩=some (.int .u64 (y:Nat)))
      ((refine ⟨?_,?_,?_,?_⟩ <;> first | assumption | (simp [go_sem];done))) (fail)
     all_goals
      go_wp2
      go_ret
      exact ⟨by rw [← hbb];rfl,bX⟩
    ·obtain rfl:b=false:=by
      cases b
      ·rfl
      ·exact absurd (hb.1 rfl).2.2.2.1 h4
     have H4:=Lib.hid h4
     clear hb h3 h4
     go_enter Tryz.func281,Tryz.ntmps281
     go_wp2_with fail
     go_at_call 228
     refine (SS.out _).mono ?_
     rintro e w1 ⟨rfl,hb_w1⟩
     obtain ⟨hc_w1,hf_w1⟩:=bcell hb_w1;have hz_w1_w_0:w.heap.size < w1.heap.size:=lY hb_w1.size;have hs_w1:=hb_w1.size;(try simp only [zZ] at hs_w1)
     go_wp2_with fail
     go_at_call 213
     refine (check_ok ca (hA.later bX) H3.out).mono ?_
     rintro e w2 ⟨rfl,hb_w2⟩
     obtain ⟨hc_w2,hf_w2⟩:=bcell hb_w2;have hz_w2_w_0:w.heap.size < w2.heap.size:=lY hb_w2.size;have hs_w2:=hb_w2.size;(try simp only [zZ] at hs_w2)
     go_wp2_with fail
     go_at_call 213
     refine (check_bad cm (hM.later bX) H4.out).mono ?_
     rintro e w3 ⟨rfl,hb_w3⟩
     obtain ⟨hc_w3,hf_w3⟩:=bcell hb_w3;have hz_w3_w_0:w.heap.size < w3.heap.size:=lY hb_w3.size;have hs_w3:=hb_w3.size;(try simp only [zZ] at hs_w3)
     go_wp2
     go_ret
     exact ⟨rfl,bX⟩
   ·obtain rfl:b=false:=by
     cases b
     ·rfl
     ·exact absurd (hb.1 rfl).2.2.1 h3
    have H3:=Lib.hid h3
    clear hb h3
    go_enter Tryz.func281,Tryz.ntmps281
    go_wp2_with fail
    go_at_call 228
    refine (SS.out _).mono ?_
    rintro e w1 ⟨rfl,hb_w1⟩
    obtain ⟨hc_w1,hf_w1⟩:=bcell hb_w1;have hz_w1_w_0:w.heap.size < w1.heap.size:=lY hb_w1.size;have hs_w1:=hb_w1.size;(try simp only [zZ] at hs_w1)
    go_wp2_with fail
    go_at_call 213
    refine (check_bad ca (hA.later bX) H3.out).mono ?_
    rintro e w2 ⟨rfl,hb_w2⟩
    obtain ⟨hc_w2,hf_w2⟩:=bcell hb_w2;have hz_w2_w_0:w.heap.size < w2.heap.size:=lY hb_w2.size;have hs_w2:=hb_w2.size;(try simp only [zZ] at hs_w2)
    go_wp2
    go_ret
    exact ⟨rfl,bX⟩
  ·obtain rfl:b=false:=by
    cases b
    ·rfl
    ·exact absurd (hb.1 rfl).2.1 h2
   have d2:(mn != an)=true:=by simpa using h2
   clear hb h2
   go_enter Tryz.func281,Tryz.ntmps281
   go_wp2_with fail
   go_at_call 228
   refine (SS.out _).mono ?_
   rintro e w1 ⟨rfl,hb_w1⟩
   obtain ⟨hc_w1,hf_w1⟩:=bcell hb_w1;have hz_w1_w_0:w.heap.size < w1.heap.size:=lY hb_w1.size;have hs_w1:=hb_w1.size;(try simp only [zZ] at hs_w1)
   go_wp2
   go_ret
   exact ⟨rfl,bX⟩
 ·obtain rfl:b=false:=by
   cases b
   ·rfl
   ·exact absurd (hb.1 rfl).1 h1
  have d1:(an != n)=true:=by simpa using h1
  clear hb h1
  go_enter Tryz.func281,Tryz.ntmps281
  go_wp2_with fail
  go_at_call 228
  refine (SS.out _).mono ?_
  rintro e w1 ⟨rfl,hb_w1⟩
  obtain ⟨hc_w1,hf_w1⟩:=bcell hb_w1;have hz_w1_w_0:w.heap.size < w1.heap.size:=lY hb_w1.size;have hs_w1:=hb_w1.size;(try simp only [zZ] at hs_w1)
  go_wp2
  go_ret
  exact ⟨rfl,bX⟩
set_option maxHeartbeats 1000000 in
theorem svalid_any (hA:Row w w.heap.size A d.aw) (hM:Row w w.heap.size M d.mw) (b:Bool) (hb:b=true ↔ Ok1 d) :
  Calls Tryz.prog 251 #[spv d A ca M cm] w fun e w'=>e=.returned (.bool b)∧Below w.heap.size w w':=by
 rw [ok1_iff] at hb
 have Z:=fun (w:World) b hb=>ssized_any (w:=w) d A ca M cm b hb
 have P:=fun (w:World) hp b hb=>splaced_any (w:=w) d A ca M cm hp b hb
 have R:=fun (w:World) hA hM h b hb=>srecorded_any (w:=w) (d:=d) (A:=A) (M:=M) (p:=d.p) ca cm h hA hM b hb
 by_cases h1:Sized d.p d.z
 ·have hs:=h1.slots
  have hp:1 ≤ d.p∧d.p ≤ 4:=by omega
  by_cases h2:Placed d.f d.p
  ·have hb2:b=true ↔ Rec d:=by rw [hb];exact ⟨fun h=>h.2.2,fun h=>⟨h1,h2,h⟩⟩
   have Z1:=Lib.hid fun w=>Z w true (decide_eq_true h1)
   have P1:=Lib.hid fun w=>P w hp true (decide_eq_true h2)
   have R1:=Lib.hid fun w hA hM=>R w hA hM h1 b hb2
   clear Z P R hb hb2 h1 h2 hs hp
   obtain ⟨f,p',z,an,aw,mn,mw,s⟩:=d
   simp only at hA hM Z1 P1 R1
   unfold spv at Z1 P1 R1 ⊢
   simp only at Z1 P1 R1 ⊢
   go_enter Tryz.func251,Tryz.ntmps251
   go_wp2_with fail
   go_at_call 258
   refine (Z1.out _).mono ?_
   rintro e w1 ⟨rfl,hb_w1⟩
   obtain ⟨hc_w1,hf_w1⟩:=bcell hb_w1;have hz_w1_w_0:w.heap.size < w1.heap.size:=lY hb_w1.size;have hs_w1:=hb_w1.size;(try simp only [zZ] at hs_w1)
   go_wp2_with fail
   go_at_call 259
   refine (P1.out _).mono ?_
   rintro e w2 ⟨rfl,hb_w2⟩
   obtain ⟨hc_w2,hf_w2⟩:=bcell hb_w2;have hz_w2_w_0:w.heap.size < w2.heap.size:=lY hb_w2.size;have hs_w2:=hb_w2.size;(try simp only [zZ] at hs_w2)
   go_wp2_with fail
   go_at_call 281
   refine (R1.out _ (hA.later bX) (hM.later bX)).mono ?_
   rintro e w3 ⟨rfl,hb_w3⟩
   obtain ⟨hc_w3,hf_w3⟩:=bcell hb_w3;have hz_w3_w_0:w.heap.size < w3.heap.size:=lY hb_w3.size;have hs_w3:=hb_w3.size;(try simp only [zZ] at hs_w3)
   go_wp2
   go_ret
   exact ⟨rfl,bX⟩
  ·obtain rfl:b=false:=by
    cases b
    ·rfl
    ·exact absurd (hb.1 rfl).2.1 h2
   have Z1:=Lib.hid fun w=>Z w true (decide_eq_true h1)
   have P1:=Lib.hid fun w=>P w hp false (decide_eq_false h2)
   clear Z P R hb h1 h2 hs hp
   obtain ⟨f,p',z,an,aw,mn,mw,s⟩:=d
   unfold spv at Z1 P1 ⊢
   simp only at Z1 P1 ⊢
   go_enter Tryz.func251,Tryz.ntmps251
   go_wp2_with fail
   go_at_call 258
   refine (Z1.out _).mono ?_
   rintro e w1 ⟨rfl,hb_w1⟩
   obtain ⟨hc_w1,hf_w1⟩:=bcell hb_w1;have hz_w1_w_0:w.heap.size < w1.heap.size:=lY hb_w1.size;have hs_w1:=hb_w1.size;(try simp only [zZ] at hs_w1)
   go_wp2_with fail
   go_at_call 259
   refine (P1.out _).mono ?_
   rintro e w2 ⟨rfl,hb_w2⟩
   obtain ⟨hc_w2,hf_w2⟩:=bcell hb_w2;have hz_w2_w_0:w.heap.size < w2.heap.size:=lY hb_w2.size;have hs_w2:=hb_w2.size;(try simp only [zZ] at hs_w2)
   go_wp2
   go_ret
   exact ⟨rfl,bX⟩
 ·obtain rfl:b=false:=by
   cases b
   ·rfl
   ·exact absurd (hb.1 rfl).1 h1
  have Z1:=Lib.hid fun w=>Z w false (decide_eq_false h1)
  clear Z P R hb h1
  obtain ⟨f,p',z,an,aw,mn,mw,s⟩:=d
  unfold spv at Z1 ⊢
  simp only at Z1 ⊢
  go_enter Tryz.func251,Tryz.ntmps251
  go_wp2_with fail
  go_at_call 258
  refine (Z1.out _).mono ?_
  rintro e w1 ⟨rfl,hb_w1⟩
  obtain ⟨hc_w1,hf_w1⟩:=bcell hb_w1;have hz_w1_w_0:w.heap.size < w1.heap.size:=lY hb_w1.size;have hs_w1:=hb_w1.size;(try simp only [zZ] at hs_w1)
  go_wp2
  go_ret
  exact ⟨rfl,bX⟩
end
def sd0:Sd:=⟨0,0,0,0,[],0,[],false⟩
def nth (l:List Sd) (i:Nat):Sd:=l.getD i sd0
structure SRow (w:World) (B:Nat) (A:Option Addr) (l:List Sd):Prop where
 at_:0 < l.length → ∃ b off,A=some ⟨b,off,none⟩∧b < B∧∀ i,i < l.length → ∃ Aa ca Am cm,Sp8 w b (off + i * 8) (nth l i) Aa ca Am cm∧Row w B Aa (nth l i).aw∧Row w B Am (nth l i).mw
theorem SRow.keep {w w':World} {B:Nat} {A:Option Addr} {l:List Sd} (h:SRow w B A l) (hk:∀ b o,b < B → w'.cell? ⟨b,o,none⟩=w.cell? ⟨b,o,none⟩):SRow w' B A l:=
 ⟨fun hl=>by
  obtain ⟨b,off,e,hb,hc⟩:=h.at_ hl
  refine ⟨b,off,e,hb,fun i hi=>?_⟩
  obtain ⟨Aa,ca,Am,cm,h1,h2,h3⟩:=hc i hi
  exact ⟨Aa,ca,Am,cm,⟨(hk _ _ hb).trans h1.c0,(hk _ _ hb).trans h1.c1,(hk _ _ hb).trans h1.c2,(hk _ _ hb).trans h1.c3,(hk _ _ hb).trans h1.c4,(hk _ _ hb).trans h1.c5,(hk _ _ hb).trans h1.c6,(hk _ _ hb).trans h1.c7⟩,h2.keep hk,h3.keep hk⟩⟩
theorem SRow.more {w:World} {B B':Nat} {A:Option Addr} {l:List Sd} (h:SRow w B A l) (hB:B ≤ B'):SRow w B' A l:=
 ⟨fun hl=>by
  obtain ⟨b,off,e,hb,hc⟩:=h.at_ hl
  refine ⟨b,off,e,by omega,fun i hi=>?_⟩
  obtain ⟨Aa,ca,Am,cm,h1,h2,h3⟩:=hc i hi
  exact ⟨Aa,ca,Am,cm,h1,h2.more hB,h3.more hB⟩⟩
theorem SRow.below {w w':World} {B:Nat} {A:Option Addr} {l:List Sd} (h:SRow w B A l) (hb:Below B w w'):SRow w' B A l:=h.keep fun b o hlt=>hb.cell (p:=⟨b,o,none⟩) hlt
theorem SRow.later {w w':World} {A:Option Addr} {l:List Sd} (h:SRow w w.heap.size A l) (hb:Below w.heap.size w w'):SRow w' w'.heap.size A l:=(h.below hb).more hb.size
theorem SRow.nil (w:World) (B:Nat) (A:Option Addr):SRow w B A []:=⟨fun h=>by simp at h⟩
def OkP (l:List Sd) (k:Nat):Prop:=(∀ i,i < k → Ok1 (nth l i))∧∀ i,i + 1 < k → (nth l i).f + (nth l i).p ≤ (nth l (i + 1)).f
def endAt (l:List Sd):Nat → Int
 | 0=>0
 | k + 1=>(nth l k).f + (nth l k).p
def OkL (l:List Sd):Prop:=l.length ≤ 256∧OkP l l.length
theorem OkP.end_ {l:List Sd} {k:Nat} (h:OkP l k):0 ≤ endAt l k∧endAt l k ≤ 1024:=by
 cases k with
 | zero=>exact ⟨Int.le_refl _,by show (0:Int) ≤ _;omega⟩
 | succ k=>
  have h1:=(h.1 k (by omega))
  have:=h1.placed
  have:=h1.sized.slots
  unfold Placed at this
  show 0 ≤ (nth l k).f + (nth l k).p∧_
  have h2:=h1.placed
  unfold Placed at h2
  constructor
  ·omega
  ·show (nth l k).f + (nth l k).p ≤ 1024
   omega
theorem OkP.next {l:List Sd} {k:Nat} (h:OkP l k) (h1:Ok1 (nth l k)) (h2:endAt l k ≤ (nth l k).f):OkP l (k + 1):=by
 refine ⟨fun i hi=>?_,fun i hi=>?_⟩
 ·by_cases e:i=k
  ·rw [e];exact h1
  ·exact h.1 i (by omega)
 ·by_cases e:i + 1=k
  ·subst e
   exact h2
  ·exact h.2 i (by omega)
theorem OkP.at_ {l:List Sd} {k n:Nat} (h:OkP l n) (hk:k < n):Ok1 (nth l k)∧endAt l k ≤ (nth l k).f:=by
 refine ⟨h.1 k hk,?_⟩
 cases k with
 | zero=>exact (h.1 0 hk).placed.1
 | succ k=>exact h.2 k hk
section
variable {w:World} {A:Option Addr} {l:List Sd} (cap:Nat)
set_option maxHeartbeats 1000000 in
theorem scheck_any (hr:SRow w w.heap.size A l) (hl:l.length ≤ 17592186044416) (y:Int) (hy:(OkL l∧y=0) ∨ (¬ OkL l∧y=2)) :
  Calls Tryz.prog 217 #[.slice A l.length cap] w fun e w'=>e=.returned (.int .i64 y)∧Below w.heap.size w w':=by
 by_cases hlen:256 < l.length
 ·obtain rfl:y=2:=by
   rcases hy with ⟨h,_⟩ | ⟨_,h⟩
   ·exact absurd h.1 (by omega)
   ·exact h
  have d1:decide (256 < (l.length:Int))=true:=decide_eq_true (by omega)
  clear hy
  go_enter Tryz.func217,Tryz.ntmps217
  go_wp2
  go_ret
  exact ⟨rfl,bX⟩
 ·have d1:decide (256 < (l.length:Int))=false:=decide_eq_false (by omega)
  have hY:=Lib.hid hy
  clear hy
  go_enter Tryz.func217,Tryz.ntmps217
  go_wp2
  go_loopw [3,11] (fun c ii wr=>∃ k:Nat,ii=.int .i64 (k:Nat)∧k ≤ l.length∧c=.int .i64 (endAt l k)∧OkP l k∧Below w.heap.size w wr) (fun _ ii _=>l.length - (intOf ii).toNat)
  case atStart=>exact ⟨0,rfl,Nat.zero_le _,rfl,⟨fun i hi=>by omega,fun i hi=>by omega⟩,bX⟩
  case round=>
   obtain ⟨k,rfl,hk,rfl,hA,hb_wr⟩:=hrel
   have hsr:=hb_wr.size
   by_cases hlt:k < l.length
   ·obtain ⟨b,off,rfl,hbb,hc⟩:=(hr.later hb_wr).at_ (by omega)
    obtain ⟨Aa,ca,Am,cm,c8,ra,rm⟩:=hc k hlt
    obtain ⟨d,hd⟩:∃ d,Hid (nth l k=d):=⟨_,rfl⟩
    rw [hd.out] at c8 ra rm
    obtain ⟨e,he⟩:∃ e,Hid (endAt l k=e):=⟨_,rfl⟩
    have hen:=hA.end_
    rw [he.out] at hen ⊢
    have HA:=Lib.hid hA
    obtain ⟨c0,c1,c2,c3,c4,c5,c6,c7⟩:=id c8
    clear hc hA
    by_cases h1:Ok1 d
    ·have H1:=Lib.hid h1
     have hs:=h1.sized.slots
     have hp:=h1.placed
     unfold Placed at hp
     obtain ⟨p0,p1⟩:=hp
     by_cases h2:e ≤ d.f
     ·have d2:decide (d.f < e)=false:=decide_eq_false (by omega)
      have HN:Hid (OkP l (k + 1)):=Lib.hid (HA.out.next (by rw [hd.out];exact h1) (by rw [he.out,hd.out];exact h2))
      have HE:Hid (endAt l (k + 1)=d.f + d.p):=Lib.hid (by show (nth l k).f + (nth l k).p=_;rw [hd.out])
      have V:=Lib.hid fun (w:World) hA hM=>svalid_any (w:=w) (d:=d) (A:=Aa) (M:=Am) ca cm hA hM true ⟨fun _=>H1.out,fun _=>rfl⟩
      have G:=Lib.hid fun (w:World)=>sbehind_any (w:=w) d Aa ca Am cm (by omega) (by omega)
      clear h1 hs
      obtain ⟨f,p,z,an,aw,mn,mw,s⟩:=d
      simp only at *
      unfold spv at V G
      simp only at V G
      go_wp2_with (first
       | (go_at_call 251;refine (V.out _ (ra.later bX) (rm.later bX)).mono ?_;rintro e w1 ⟨rfl,hb_w1⟩;obtain ⟨hc_w1,hf_w1⟩:=bcell hb_w1;have hz_w1_wr_0:wr.heap.size < w1.heap.size:=lY hb_w1.size;have hs_w1:=hb_w1.size;(try simp only [zZ] at hs_w1))
       | (go_at_call 252;refine (G.out _).mono ?_;rintro e w2 ⟨rfl,hb_w2⟩;obtain ⟨hc_w2,hf_w2⟩:=bcell hb_w2;have hz_w2_wr_0:wr.heap.size < w2.heap.size:=lY hb_w2.size;have hs_w2:=hb_w2.size;(try simp only [zZ] at hs_w2)))
      go_roundw
      case rel=>exact ⟨k + 1,by go_num,by omega,by rw [HE.out],HN.out,bX⟩
      case measure=>simp [intOf];omega
     ·have d2:decide (d.f < e)=true:=decide_eq_true (by omega)
      obtain rfl:y=2:=by
       rcases hY.out with ⟨h,_⟩ | ⟨_,h⟩
       ·have:=(h.2.at_ hlt).2
        rw [he.out,hd.out] at this
        exact absurd this h2
       ·exact h
      have V:=Lib.hid fun (w:World) hA hM=>svalid_any (w:=w) (d:=d) (A:=Aa) (M:=Am) ca cm hA hM true ⟨fun _=>H1.out,fun _=>rfl⟩
      clear h1 hs h2
      obtain ⟨f,p,z,an,aw,mn,mw,s⟩:=d
      simp only at *
      unfold spv at V
      simp only at V
      go_wp2_with (go_at_call 251;refine (V.out _ (ra.later bX) (rm.later bX)).mono ?_;rintro e w1 ⟨rfl,hb_w1⟩;obtain ⟨hc_w1,hf_w1⟩:=bcell hb_w1;have hz_w1_wr_0:wr.heap.size < w1.heap.size:=lY hb_w1.size;have hs_w1:=hb_w1.size;(try simp only [zZ] at hs_w1))
      go_ret
      exact ⟨rfl,bX⟩
    ·obtain rfl:y=2:=by
      rcases hY.out with ⟨h,_⟩ | ⟨_,h⟩
      ·have:=(h.2.at_ hlt).1
       rw [hd.out] at this
       exact absurd this h1
      ·exact h
     have V:=Lib.hid fun (w:World) hA hM=>svalid_any (w:=w) (d:=d) (A:=Aa) (M:=Am) ca cm hA hM false ⟨fun h=>(by cases h),fun h=>absurd h h1⟩
     clear h1
     obtain ⟨f,p,z,an,aw,mn,mw,s⟩:=d
     simp only at *
     unfold spv at V
     simp only at V
     go_wp2_with (go_at_call 251;refine (V.out _ (ra.later bX) (rm.later bX)).mono ?_;rintro e w1 ⟨rfl,hb_w1⟩;obtain ⟨hc_w1,hf_w1⟩:=bcell hb_w1;have hz_w1_wr_0:wr.heap.size < w1.heap.size:=lY hb_w1.size;have hs_w1:=hb_w1.size;(try simp only [zZ] at hs_w1))
     go_ret
     exact ⟨rfl,bX⟩
   ·obtain rfl:k=l.length:=by omega
    obtain rfl:y=0:=by
     rcases hY.out with ⟨_,h⟩ | ⟨h,_⟩
     ·exact h
     ·exact absurd ⟨by omega,hA⟩ h
    go_wp2
    go_ret
    exact ⟨rfl,bX⟩
end
theorem okl_one (d:Sd):OkL [d] ↔ Ok1 d:=by
 constructor
 ·intro h
  exact h.2.1 0 (by simp)
 ·intro h
  refine ⟨by simp,fun i hi=>?_,fun i hi=>?_⟩
  ·have:i=0:=by simp at hi;omega
   subst this
   exact h
  ·simp at hi
theorem srow_one (w:World) (d:Sd) (A:Option Addr) (ca:Nat) (M:Option Addr) (cm:Nat) (t:TypeId) (hA:Row w w.heap.size A d.aw) (hM:Row w w.heap.size M d.mw) :
  SRow (w.alloc (.cells #[.int .i64 d.f,.int .i64 d.p,.int .i64 d.z,.int .i64 d.an,.slice A d.aw.length ca,.int .i64 d.mn,.slice M d.mw.length cm,.bool d.s] t)) (w.heap.size + 1) (some ⟨w.heap.size,0,none⟩) [d]:=
 ⟨fun _=>⟨w.heap.size,0,rfl,by omega,fun i hi=>by
  have:i=0:=by simp at hi;omega
  subst this
  have hb:Below w.heap.size w (w.alloc (.cells #[.int .i64 d.f,.int .i64 d.p,.int .i64 d.z,.int .i64 d.an,.slice A d.aw.length ca,.int .i64 d.mn,.slice M d.mw.length cm,.bool d.s] t)):=(Below.refl _ _).alloc (Nat.le_refl _) _
  exact ⟨A,ca,M,cm,Sp8.new w d A ca M cm t,(hA.below hb).more (by omega),(hM.below hb).more (by omega)⟩⟩⟩
section
variable {w:World} {d:Sd} {A M:Option Addr} (ca cm:Nat)
theorem scheck1_any {g:Nat} (hg:w.heap.size=g) (hA:Row w w.heap.size A d.aw) (hM:Row w w.heap.size M d.mw) (y:Int) (hy:(Ok1 d∧y=0) ∨ (¬ Ok1 d∧y=2)) (t:TypeId) :
  Calls Tryz.prog 217 #[.slice (some ⟨g,0,none⟩) 1 1] (w.alloc (.cells #[.int .i64 d.f,.int .i64 d.p,.int .i64 d.z,.int .i64 d.an,.slice A d.aw.length ca,.int .i64 d.mn,.slice M d.mw.length cm,.bool d.s] t)) fun e w'=>e=.returned (.int .i64 y)∧Below (g + 1) (w.alloc (.cells #[.int .i64 d.f,.int .i64 d.p,.int .i64 d.z,.int .i64 d.an,.slice A d.aw.length ca,.int .i64 d.mn,.slice M d.mw.length cm,.bool d.s] t)) w':=by
 subst hg
 have h:=scheck_any (w:=w.alloc (.cells #[.int .i64 d.f,.int .i64 d.p,.int .i64 d.z,.int .i64 d.an,.slice A d.aw.length ca,.int .i64 d.mn,.slice M d.mw.length cm,.bool d.s] t)) 1 (by have:=srow_one w d A ca M cm t hA hM;rwa [show w.heap.size + 1=_ from (World.size_alloc w _).symm] at this) (by simp) y (by rwa [okl_one])
 rw [World.size_alloc] at h
 exact h
end
theorem Sized.room {p z:Int} (h:Sized p z) (k:Int) (h0:0 ≤ k) (h1:k < slotsOf z):0 ≤ k * z∧k * z ≤ 16:=by
 rcases h with ⟨rfl | rfl | rfl | rfl,rfl⟩ | ⟨rfl,_,_⟩
 all_goals
  simp [slotsOf] at h1
  omega
def AddrE (d:Sd) (k:Int) (r y:Int):Prop:=(Ok1 d∧0 ≤ k∧k < slotsOf d.z∧r=d.f * 16 + k * d.z∧y=0) ∨ (Ok1 d∧¬ (0 ≤ k∧k < slotsOf d.z)∧r=0∧y=1) ∨ (¬ Ok1 d∧r=0∧y=2)
section
variable {w:World} {d:Sd} {A M:Option Addr} (ca cm:Nat)
set_option maxHeartbeats 1000000 in
theorem sAddr_any (hA:Row w w.heap.size A d.aw) (hM:Row w w.heap.size M d.mw) (k r y:Int) (hy:AddrE d k r y) :
  Calls Tryz.prog 159 #[spv d A ca M cm,.int .i64 k] w fun e w'=>e=.returned (.tuple #[.int .u64 r,.int .i64 y])∧Below w.heap.size w w':=by
 by_cases h:Ok1 d
 ·have V:=Lib.hid fun (w:World) (g:Nat) (hg:w.heap.size=g) hA hM=>scheck1_any (w:=w) (d:=d) (A:=A) (M:=M) ca cm hg hA hM 0 (.inl ⟨h,rfl⟩) 72
  have S:=Lib.hid fun (w:World)=>sslots_any (w:=w) d A ca M cm h.sized
  have hs:=h.sized.slots
  have hp:=h.placed
  unfold Placed at hp
  by_cases hk:0 ≤ k∧k < slotsOf d.z
  ·obtain ⟨m0,m1⟩:=h.sized.room k hk.1 hk.2
   obtain ⟨rfl,rfl⟩:r=d.f * 16 + k * d.z∧y=0:=by
    rcases hy with ⟨_,_,_,a,b⟩ | ⟨_,a,_⟩ | ⟨a,_⟩
    ·exact ⟨a,b⟩
    ·exact absurd hk a
    ·exact absurd h a
   have D:=Lib.hid fun (w:World)=>saddress_any (w:=w) d A ca M cm k hp.1 (by omega) (by omega) hk.1 (by omega) (k * d.z) rfl m0 (by omega)
   obtain ⟨k0,k1⟩:=hk
   clear h hy
   obtain ⟨f,p,z,an,aw,mn,mw,s⟩:=d
   simp only at *
   generalize k * z=m at *
   generalize slotsOf z=n at *
   have d0:decide (k < 0)=false:=decide_eq_false (by omega)
   have d1:decide (n ≤ k)=false:=decide_eq_false (by omega)
   unfold spv at S D ⊢
   simp only at S D ⊢
   go_enter Tryz.func159,Tryz.ntmps159
   go_wp2_with (first
    | (go_at_call 217;refine (V.out _ _ (by simp) (hA.later bX) (hM.later bX)).mono ?_;rintro e w1 ⟨rfl,hb_w1⟩;obtain ⟨hc_w1,hf_w1⟩:=bcell hb_w1;have hz_w1_w_0:w.heap.size < w1.heap.size:=lY hb_w1.size;have hs_w1:=hb_w1.size;(try simp only [zZ] at hs_w1))
    | (go_at_call 228;refine (S.out _).mono ?_;rintro e w2 ⟨rfl,hb_w2⟩;obtain ⟨hc_w2,hf_w2⟩:=bcell hb_w2;have hz_w2_w_0:w.heap.size < w2.heap.size:=lY hb_w2.size;have hs_w2:=hb_w2.size;(try simp only [zZ] at hs_w2))
    | (go_at_call 229;refine (D.out _).mono ?_;rintro e w3 ⟨rfl,hb_w3⟩;obtain ⟨hc_w3,hf_w3⟩:=bcell hb_w3;have hz_w3_w_0:w.heap.size < w3.heap.size:=lY hb_w3.size;have hs_w3:=hb_w3.size;(try simp only [zZ] at hs_w3)))
   go_ret2
   exact ⟨rfl,bX⟩
  ·obtain ⟨rfl,rfl⟩:r=0∧y=1:=by
    rcases hy with ⟨_,a,b,_⟩ | ⟨_,_,a,b⟩ | ⟨a,_⟩
    ·exact absurd ⟨a,b⟩ hk
    ·exact ⟨a,b⟩
    ·exact absurd h a
   clear h hy
   obtain ⟨f,p,z,an,aw,mn,mw,s⟩:=d
   simp only at *
   generalize slotsOf z=n at *
   unfold spv at S ⊢
   simp only at S ⊢
   by_cases k0:k < 0
   ·have d0:decide (k < 0)=true:=decide_eq_true k0
    clear hk
    go_enter Tryz.func159,Tryz.ntmps159
    go_wp2_with (first
     | (go_at_call 217;refine (V.out _ _ (by simp) (hA.later bX) (hM.later bX)).mono ?_;rintro e w1 ⟨rfl,hb_w1⟩;obtain ⟨hc_w1,hf_w1⟩:=bcell hb_w1;have hz_w1_w_0:w.heap.size < w1.heap.size:=lY hb_w1.size;have hs_w1:=hb_w1.size;(try simp only [zZ] at hs_w1))
     | (go_at_call 228;refine (S.out _).mono ?_;rintro e w2 ⟨rfl,hb_w2⟩;obtain ⟨hc_w2,hf_w2⟩:=bcell hb_w2;have hz_w2_w_0:w.heap.size < w2.heap.size:=lY hb_w2.size;have hs_w2:=hb_w2.size;(try simp only [zZ] at hs_w2)))
    go_ret2
    exact ⟨rfl,bX⟩
   ·have d0:decide (k < 0)=false:=decide_eq_false k0
    have d1:decide (n ≤ k)=true:=decide_eq_true (by omega)
    clear hk
    go_enter Tryz.func159,Tryz.ntmps159
    go_wp2_with (first
     | (go_at_call 217;refine (V.out _ _ (by simp) (hA.later bX) (hM.later bX)).mono ?_;rintro e w1 ⟨rfl,hb_w1⟩;obtain ⟨hc_w1,hf_w1⟩:=bcell hb_w1;have hz_w1_w_0:w.heap.size < w1.heap.size:=lY hb_w1.size;have hs_w1:=hb_w1.size;(try simp only [zZ] at hs_w1))
     | (go_at_call 228;refine (S.out _).mono ?_;rintro e w2 ⟨rfl,hb_w2⟩;obtain ⟨hc_w2,hf_w2⟩:=bcell hb_w2;have hz_w2_w_0:w.heap.size < w2.heap.size:=lY hb_w2.size;have hs_w2:=hb_w2.size;(try simp only [zZ] at hs_w2)))
    go_ret2
    exact ⟨rfl,bX⟩
 ·obtain ⟨rfl,rfl⟩:r=0∧y=2:=by
   rcases hy with ⟨a,_⟩ | ⟨a,_⟩ | ⟨_,a,b⟩
   ·exact absurd a h
   ·exact absurd a h
   ·exact ⟨a,b⟩
  have V:=Lib.hid fun (w:World) (g:Nat) (hg:w.heap.size=g) hA hM=>scheck1_any (w:=w) (d:=d) (A:=A) (M:=M) ca cm hg hA hM 2 (.inr ⟨h,rfl⟩) 72
  clear h hy
  obtain ⟨f,p,z,an,aw,mn,mw,s⟩:=d
  simp only at *
  unfold spv
  simp only
  go_enter Tryz.func159,Tryz.ntmps159
  go_wp2_with (go_at_call 217;refine (V.out _ _ (by simp) (hA.later bX) (hM.later bX)).mono ?_;rintro e w1 ⟨rfl,hb_w1⟩;obtain ⟨hc_w1,hf_w1⟩:=bcell hb_w1;have hz_w1_w_0:w.heap.size < w1.heap.size:=lY hb_w1.size;have hs_w1:=hb_w1.size;(try simp only [zZ] at hs_w1))
  go_ret2
  exact ⟨rfl,bX⟩
end
def hpv (A:Option Addr) (na ca:Nat) (n:Int) (U:Option Addr) (nu cu:Nat) (V:Option Addr) (nv cv:Nat):Value:=.agg #[.slice A na ca,.int .i64 n,.slice U nu cu,.slice V nv cv]
def getB (us:List Nat) (n i:Int):Bool:=if 0 ≤ i∧i < n then tb us i.toNat else false
def usedB (us:List Nat) (n f:Int) (c:Nat):Bool:=(List.range c).all fun j=>getB us n (f + (j:Int))
def blankB (ws:List Nat) (a c:Nat):Bool:=(List.range c).all fun j=>gotA ws (a + j) == 0
theorem usedB_succ (us:List Nat) (n f:Int) (c:Nat):usedB us n f (c + 1)=(usedB us n f c && getB us n (f + (c:Int))):=by simp [usedB,List.range_succ]
theorem blankB_succ (ws:List Nat) (a c:Nat):blankB ws a (c + 1)=(blankB ws a c && gotA ws (a + c) == 0):=by simp [blankB,List.range_succ]
theorem usedB_le {us:List Nat} {n f:Int} {c k:Nat} (hk:k ≤ c) (h:usedB us n f k=false):usedB us n f c=false:=by
 induction c with
 | zero=>obtain rfl:k=0:=by omega
         exact h
 | succ c ih=>
  by_cases e:k=c + 1
  ·rw [← e];exact h
  ·rw [usedB_succ,ih (by omega)];rfl
theorem blankB_le {ws:List Nat} {a c k:Nat} (hk:k ≤ c) (h:blankB ws a k=false):blankB ws a c=false:=by
 induction c with
 | zero=>obtain rfl:k=0:=by omega
         exact h
 | succ c ih=>
  by_cases e:k=c + 1
  ·rw [← e];exact h
  ·rw [blankB_succ,ih (by omega)];rfl
section
variable {w:World} {n:Int} {A U V:Option Addr} {ws us:List Nat} (ca cu cv nu nv na:Nat)
theorem zget_any (i:Int) (hr:Row w w.heap.size U us) (h:Right n us) :
  Calls Tryz.prog 241 #[.agg #[.int .i64 n,.slice U us.length cu],.int .i64 i] w fun e w'=>∃ y:Int,e=.returned (.tuple #[.bool (getB us n i),.int .i64 y])∧Below w.heap.size w w':=by
 unfold getB
 by_cases hi:0 ≤ i∧i < n
 ·rw [if_pos hi]
  exact (get_in cu i hr h hi.1 hi.2).mono fun e w' ⟨h1,h2⟩=>⟨0,h1,h2⟩
 ·rw [if_neg hi]
  exact (get_out cu i hr h hi).mono fun e w' ⟨h1,h2⟩=>⟨1,h1,h2⟩
theorem zword_any (i:Nat) (hr:Row w w.heap.size A ws) (h1:i < W64) :
  Calls Tryz.prog 102 #[hpv A ws.length ca n U nu cu V nv cv,.int .u64 (i:Nat)] w fun e w'=>e=.returned (.int .u64 (gotA ws i:Nat))∧Below w.heap.size w w':=by
 have HL:=Lib.hid fun (w:World) hr=>load_any (w:=w) (A:=A) (ws:=ws) ca i hr h1
 generalize gotA ws i=x at *
 generalize errA ws (i + 1 ≤ ws.length)=y at *
 unfold hpv
 go_enter Tryz.func102,Tryz.ntmps102
 go_wp2_with fail
 go_at_call 176
 refine (HL.out _ (hr.later bX)).mono ?_
 rintro e w1 ⟨rfl,hb_w1⟩
 obtain ⟨hc_w1,hf_w1⟩:=bcell hb_w1;have hz_w1_w_0:w.heap.size < w1.heap.size:=lY hb_w1.size;have hs_w1:=hb_w1.size;(try simp only [zZ] at hs_w1)
 go_wp2
 go_ret
 exact ⟨rfl,bX⟩
set_option maxHeartbeats 1000000 in
theorem zused_any (f:Int) (c:Nat) (hr:Row w w.heap.size U us) (h:Right n us) (f0:0 ≤ f) (f1:f ≤ 100000) (c1:c ≤ 100000) (b:Bool) (hb:usedB us n f c=b) :
  Calls Tryz.prog 218 #[hpv A na ca n U us.length cu V nv cv,.int .i64 f,.int .i64 (c:Nat)] w fun e w'=>e=.returned (.bool b)∧Below w.heap.size w w':=by
 have HG:=Lib.hid fun (w:World) (i:Int) hr=>zget_any (w:=w) (n:=n) (U:=U) (us:=us) cu i hr h
 have HB:=Lib.hid hb
 have HS:=Lib.hid fun k=>usedB_succ us n f k
 clear hb h
 unfold hpv
 go_enter Tryz.func218,Tryz.ntmps218
 go_wp2_with fail
 go_loopw [11] (fun ii wr=>∃ k:Nat,ii=.int .i64 (k:Nat)∧k ≤ c∧Hid (usedB us n f k=true)∧(wr.cell? ⟨w.heap.size,1,none⟩=some (.int .i64 n)∧wr.cell? ⟨w.heap.size,2,none⟩=some (.slice U us.length cu))∧w.heap.size + 1 ≤ wr.heap.size∧Below w.heap.size w wr) (fun ii _=>c - (intOf ii).toNat)
 case atStart=>exact ⟨0,rfl,Nat.zero_le _,Lib.hid rfl,⟨by simp,by simp⟩,lX,bX⟩
 case round=>
  obtain ⟨k,rfl,hk,hT,⟨m1,m2⟩,hsz,hb_wr⟩:=hrel
  have hsr:=hb_wr.size
  by_cases hlt:k < c
  ·have HK:=HS.out k
   have HLE:=fun (h:usedB us n f (k + 1)=false)=>usedB_le (c:=c) (by omega) h
   have HGk:=Lib.hid fun (w:World) hr=>HG.out w (f + (k:Int)) hr
   rcases hg:getB us n (f + (k:Int)) with _ | _
   ·rw [hg] at HGk HK
    rw [Bool.and_false] at HK
    obtain rfl:b=false:=by rw [← HB.out];exact HLE HK
    clear HLE HK hg
    go_wp2_with fail
    go_at_call 241
    refine (HGk.out _ ((hr.later hb_wr).later bX)).mono ?_
    rintro e w1 ⟨y,rfl,hb_w1⟩
    obtain ⟨hc_w1,hf_w1⟩:=bcell hb_w1;have hs_w1:=hb_w1.size;(try simp only [zZ] at hs_w1)
    clear hc_w1 hf_w1
    go_wp2
    go_ret
    exact ⟨rfl,bX⟩
   ·rw [hg] at HGk HK
    have HT1:Hid (usedB us n f (k + 1)=true):=Lib.hid (by rw [HK,hT.out];rfl)
    clear HLE HK hg
    go_wp2_with fail
    go_at_call 241
    refine (HGk.out _ ((hr.later hb_wr).later bX)).mono ?_
    rintro e w1 ⟨y,rfl,hb_w1⟩
    obtain ⟨hc_w1,hf_w1⟩:=bcell hb_w1;have hs_w1:=hb_w1.size;(try simp only [zZ] at hs_w1)
    have n1:=(hc_w1 w.heap.size 1 lX).trans m1
    have n2:=(hc_w1 w.heap.size 2 lX).trans m2
    clear hc_w1 hf_w1
    go_wp2
    go_roundw
    case rel=>exact ⟨k + 1,by go_num,by omega,HT1,⟨n1,n2⟩,lX,bX⟩
    case measure=>simp [intOf];omega
  ·obtain rfl:k=c:=by omega
   obtain rfl:b=true:=by rw [← HB.out];exact hT.out
   go_wp2
   go_ret
   exact ⟨rfl,bX⟩
set_option maxHeartbeats 1000000 in
theorem zblank_any (a c:Nat) (hr:Row w w.heap.size A ws) (ha:a ≤ 1000000) (hc:c ≤ 1000000) (b:Bool) (hb:blankB ws a c=b) :
  Calls Tryz.prog 219 #[hpv A ws.length ca n U nu cu V nv cv,.int .u64 (a:Nat),.int .u64 (c:Nat)] w fun e w'=>e=.returned (.bool b)∧Below w.heap.size w w':=by
 have HG:=Lib.hid fun (w:World) (i:Nat) (hi:i < W64) hr=>zword_any (w:=w) (n:=n) (A:=A) (U:=U) (V:=V) (ws:=ws) ca cu cv nu nv i hr hi
 have HB:=Lib.hid hb
 have HS:=Lib.hid fun k=>blankB_succ ws a k
 clear hb
 unfold hpv at *
 go_enter Tryz.func219,Tryz.ntmps219
 go_wp2_with fail
 go_loopw [9] (fun ii wr=>∃ k:Nat,ii=.int .u64 (k:Nat)∧k ≤ c∧Hid (blankB ws a k=true)∧(wr.cell? ⟨w.heap.size,0,none⟩=some (.slice A ws.length ca)∧wr.cell? ⟨w.heap.size,1,none⟩=some (.int .i64 n)∧wr.cell? ⟨w.heap.size,2,none⟩=some (.slice U nu cu)∧wr.cell? ⟨w.heap.size,3,none⟩=some (.slice V nv cv))∧w.heap.size + 1 ≤ wr.heap.size∧Below w.heap.size w wr) (fun ii _=>c - (intOf ii).toNat)
 case atStart=>exact ⟨0,rfl,Nat.zero_le _,Lib.hid rfl,⟨by simp,by simp,by simp,by simp⟩,lX,bX⟩
 case round=>
  obtain ⟨k,rfl,hk,hT,⟨m0,m1,m2,m3⟩,hsz,hb_wr⟩:=hrel
  have hsr:=hb_wr.size
  by_cases hlt:k < c
  ·have HK:=HS.out k
   have HLE:=fun (h:blankB ws a (k + 1)=false)=>blankB_le (c:=c) (by omega) h
   have HGk:=Lib.hid fun (w:World) hr=>HG.out w (a + k) (by unfold W64;omega) hr
   have HADD:Hid (IntKind.u64.wrap ((a:Int) + (k:Int))=((a + k:Nat):Int)):=Lib.hid (by rw [IntKind.wrap_u64];omega)
   generalize gotA ws (a + k)=x at *
   by_cases hx:x=0
   ·have f1:((x:Int) != 0)=false:=by rw [hx];rfl
    have HT1:Hid (blankB ws a (k + 1)=true):=Lib.hid (by rw [HK,hT.out,hx];rfl)
    clear HLE HK hx
    go_wp2_with fail
    try simp only [HADD.out]
    go_at_call 102
    refine (HGk.out _ ((hr.later hb_wr).later bX)).mono ?_
    rintro e w1 ⟨rfl,hb_w1⟩
    obtain ⟨hc_w1,hf_w1⟩:=bcell hb_w1;have hs_w1:=hb_w1.size;(try simp only [zZ] at hs_w1)
    have n0:=(hc_w1 w.heap.size 0 lX).trans m0
    have n1:=(hc_w1 w.heap.size 1 lX).trans m1
    have n2:=(hc_w1 w.heap.size 2 lX).trans m2
    have n3:=(hc_w1 w.heap.size 3 lX).trans m3
    clear hc_w1 hf_w1
    go_wp2
    go_roundw
    case rel=>exact ⟨k + 1,by go_num,by omega,HT1,⟨n0,n1,n2,n3⟩,lX,bX⟩
    case measure=>simp [intOf];omega
   ·have f1:((x:Int) != 0)=true:=by rw [bne_iff_ne];omega
    have hbe:(x == 0)=false:=by simpa using hx
    rw [hbe,Bool.and_false] at HK
    obtain rfl:b=false:=by rw [← HB.out];exact HLE HK
    clear HLE HK hx hbe
    go_wp2_with fail
    try simp only [HADD.out]
    go_at_call 102
    refine (HGk.out _ ((hr.later hb_wr).later bX)).mono ?_
    rintro e w1 ⟨rfl,hb_w1⟩
    obtain ⟨hc_w1,hf_w1⟩:=bcell hb_w1;have hs_w1:=hb_w1.size;(try simp only [zZ] at hs_w1)
    clear hc_w1 hf_w1
    go_wp2
    go_ret
    exact ⟨rfl,bX⟩
  ·obtain rfl:k=c:=by omega
   obtain rfl:b=true:=by rw [← HB.out];exact hT.out
   go_wp2
   go_ret
   exact ⟨rfl,bX⟩
end
structure Hb (w:World) (g:Nat) (A:Option Addr) (na ca:Nat) (n:Int) (U:Option Addr) (nu cu:Nat) (V:Option Addr) (nv cv:Nat):Prop where
 c0:w.cell? ⟨g,0,none⟩=some (.slice A na ca)
 c1:w.cell? ⟨g,1,none⟩=some (.int .i64 n)
 c2:w.cell? ⟨g,2,none⟩=some (.slice U nu cu)
 c3:w.cell? ⟨g,3,none⟩=some (.slice V nv cv)
section
variable {w w':World} {g na ca nu cu nv cv:Nat} {n:Int} {A U V:Option Addr}
theorem Hb.lt (h:Hb w g A na ca n U nu cu V nv cv):g < w.heap.size:=World.block_lt_of_cell? w _ h.c0
theorem Hb.below {B:Nat} (h:Hb w g A na ca n U nu cu V nv cv) (hb:Below B w w') (hg:g < B):Hb w' g A na ca n U nu cu V nv cv:=
 ⟨((bcell hb).1 _ _ hg).trans h.c0,((bcell hb).1 _ _ hg).trans h.c1,((bcell hb).1 _ _ hg).trans h.c2,((bcell hb).1 _ _ hg).trans h.c3⟩
theorem Hb.later (h:Hb w g A na ca n U nu cu V nv cv) (hb:Below w.heap.size w w'):Hb w' g A na ca n U nu cu V nv cv:=h.below hb h.lt
end
theorem Hb.new (w:World) (A:Option Addr) (na ca:Nat) (n:Int) (U:Option Addr) (nu cu:Nat) (V:Option Addr) (nv cv:Nat) (t:TypeId) :
  Hb (w.alloc (.cells #[.slice A na ca,.int .i64 n,.slice U nu cu,.slice V nv cv] t)) w.heap.size A na ca n U nu cu V nv cv:=by
 constructor <;> simp [go_sem]
def szn (n:Int):Int:=if n + 1 ≤ 16 then szOf (clsOf (n + 1)) else 0
def fitsB (n:Int) (d:Sd):Bool:=(d.z == szn n) && (d.p == pgOf (n + 1))
def swd (d:Sd):Nat:=if d.z=0 then (d.p * 16).toNat else d.z.toNat
theorem szn_case {n:Int} (h0:0 ≤ n) (h1:n ≤ 48):(n + 1 ≤ 2∧szn n=2∧pgOf (n + 1)=1) ∨ (2 < n + 1∧n + 1 ≤ 4∧szn n=4∧pgOf (n + 1)=1) ∨ (4 < n + 1∧n + 1 ≤ 8∧szn n=8∧pgOf (n + 1)=1) ∨ (8 < n + 1∧n + 1 ≤ 16∧szn n=16∧pgOf (n + 1)=1) ∨ (16 < n + 1∧szn n=0∧pgOf (n + 1)=(n + 16) / 16):=by
 unfold szn pgOf
 rcases clsOf_case (n + 1) (by omega) with ⟨h,e⟩ | ⟨h,h2,e⟩ | ⟨h,h2,e⟩ | ⟨h,h2,e⟩ | ⟨h,e⟩
 all_goals
  rw [e]
  simp [szOf]
  omega
theorem szn_room {n:Int} {d:Sd} (h0:0 ≤ n) (h1:n ≤ 48) (hf:fitsB n d=true):n.toNat + 1 ≤ swd d∧swd d ≤ 64:=by
 unfold fitsB at hf
 simp only [Bool.and_eq_true,beq_iff_eq] at hf
 obtain ⟨e1,e2⟩:=hf
 unfold swd
 rw [e1,e2]
 rcases szn_case h0 h1 with ⟨h,e,f⟩ | ⟨h,h2,e,f⟩ | ⟨h,h2,e,f⟩ | ⟨h,h2,e,f⟩ | ⟨h,e,f⟩
 all_goals
  rw [e,f]
  simp
  try omega
section
variable {w:World}
set_option maxHeartbeats 1000000 in
theorem zneeds_any (hs:Sizes w) (n:Int) (m:Nat) (h0:0 ≤ n) (h1:n ≤ 48) :
  Calls Tryz.prog 156 #[.agg #[.int .i64 n,.int .u64 (m:Nat)]] w fun e w'=>e=.returned (.tuple #[.int .i64 (szn n),.int .i64 (pgOf (n + 1))])∧Below w.heap.size w w':=by
 have HO:=Lib.hid fun (w:World) hs=>cof_in (w:=w) hs (n + 1) (by omega) (by omega)
 have HP:=Lib.hid fun (w:World) hs=>cpages_in (w:=w) hs (n + 1) (by omega) (by omega)
 have hw1:IntKind.i64.wrap (n + 1)=n + 1:=by rw [IntKind.wrap_i64];omega
 by_cases h16:n + 1 ≤ 16
 ·obtain ⟨c,hc0,hc4,HC⟩:∃ c:Int,0 ≤ c∧c < 4∧Hid (clsOf (n + 1)=c):=by
   rcases clsOf_case (n + 1) (by omega) with ⟨_,h⟩ | ⟨_,_,h⟩ | ⟨_,_,h⟩ | ⟨_,_,h⟩ | ⟨h,_⟩
   ·exact ⟨_,by rw [h];omega,by rw [h];omega,rfl⟩
   ·exact ⟨_,by rw [h];omega,by rw [h];omega,rfl⟩
   ·exact ⟨_,by rw [h];omega,by rw [h];omega,rfl⟩
   ·exact ⟨_,by rw [h];omega,by rw [h];omega,rfl⟩
   ·omega
  have HZ:Hid (szn n=szOf c):=Lib.hid (by unfold szn;rw [if_pos h16,HC.out])
  rw [HC.out] at HO
  have HS:=Lib.hid fun (w:World) hs=>csize_in (w:=w) hs c hc0 hc4
  rw [HZ.out]
  generalize szOf c=s at *
  generalize pgOf (n + 1)=p at *
  have d1:decide (0 ≤ c)=true:=decide_eq_true hc0
  clear h16
  go_enter Tryz.func156,Tryz.ntmps156
  go_wp2_with fail
  try simp only [hw1]
  go_at_call 221
  refine (HO.out _ (hs.later bX)).mono ?_
  rintro e w0 ⟨rfl,rfl⟩
  go_wp2_with fail
  go_at_call 222
  refine (HS.out _ (hs.later bX)).mono ?_
  rintro e w0 ⟨rfl,rfl⟩
  go_wp2_with fail
  try simp only [hw1]
  go_at_call 223
  refine (HP.out _ (hs.later bX)).mono ?_
  rintro e w0 ⟨rfl,rfl⟩
  go_wp2
  go_ret2
  exact ⟨rfl,bX⟩
 ·have HC:clsOf (n + 1)=-1:=by
   rcases clsOf_case (n + 1) (by omega) with ⟨_,h⟩ | ⟨_,_,h⟩ | ⟨_,_,h⟩ | ⟨_,_,h⟩ | ⟨_,h⟩
   ·omega
   ·omega
   ·omega
   ·omega
   ·exact h
  rw [HC] at HO
  have HZ:Hid (szn n=0):=Lib.hid (by unfold szn;rw [if_neg h16])
  rw [HZ.out]
  generalize pgOf (n + 1)=p at *
  clear h16 HC
  go_enter Tryz.func156,Tryz.ntmps156
  go_wp2_with fail
  try simp only [hw1]
  go_at_call 221
  refine (HO.out _ (hs.later bX)).mono ?_
  rintro e w0 ⟨rfl,rfl⟩
  go_wp2_with fail
  try simp only [hw1]
  go_at_call 223
  refine (HP.out _ (hs.later bX)).mono ?_
  rintro e w0 ⟨rfl,rfl⟩
  go_wp2
  go_ret2
  exact ⟨rfl,bX⟩
set_option maxHeartbeats 1000000 in
theorem zfits_any (hs:Sizes w) (n:Int) (m:Nat) (h0:0 ≤ n) (h1:n ≤ 48) (d:Sd) (A:Option Addr) (ca:Nat) (M:Option Addr) (cm:Nat) (b:Bool) (hb:fitsB n d=b) :
  Calls Tryz.prog 254 #[.agg #[.int .i64 n,.int .u64 (m:Nat)],spv d A ca M cm] w fun e w'=>e=.returned (.bool b)∧Below w.heap.size w w':=by
 have HN:=Lib.hid fun (w:World) hs=>zneeds_any (w:=w) hs n m h0 h1
 unfold fitsB at hb
 generalize szn n=s at *
 generalize pgOf (n + 1)=p at *
 obtain ⟨f,q,z,an,aw,mn,mw,sw⟩:=d
 simp only at hb
 unfold spv
 simp only
 have hcase:((z == s)=true∧(q == p)=true∧b=true) ∨ ((z == s)=true∧(q == p)=false∧b=false) ∨ ((z == s)=false∧b=false):=by
  rcases h1:z == s with _ | _ <;> rcases h2:q == p with _ | _ <;> rw [h1,h2] at hb <;> simp at hb <;> simp [hb]
 clear hb
 have hsz:Sizes ((w.alloc (.cells #[.int .i64 n,.int .u64 (m:Nat)] 34)).alloc (.cells #[.int .i64 f,.int .i64 q,.int .i64 z,.int .i64 an,.slice A aw.length ca,.int .i64 mn,.slice M mw.length cm,.bool sw] 72)):=hs.later bX
 rcases hcase with ⟨f1,f2,rfl⟩ | ⟨f1,f2,rfl⟩ | ⟨f1,rfl⟩
 all_goals
  go_enter Tryz.func254,Tryz.ntmps254
  go_wp2_with fail
  go_at_call 156
  refine (HN.out _ hsz).mono ?_
  rintro e w1 ⟨rfl,hb_w1⟩
  obtain ⟨hc_w1,hf_w1⟩:=bcell hb_w1;have hz_w1_w_0:w.heap.size < w1.heap.size:=lY hb_w1.size;have hz_w1_w_1:w.heap.size + 1 < w1.heap.size:=lY hb_w1.size;have hs_w1:=hb_w1.size;(try simp only [zZ] at hs_w1)
  go_wp2
  go_ret
  exact ⟨rfl,bX⟩
theorem zslotw_any (d:Sd) (A:Option Addr) (ca:Nat) (M:Option Addr) (cm:Nat) (hz:0 ≤ d.z∧d.z ≤ 16) (hp:0 ≤ d.p∧d.p ≤ 4) :
  Calls Tryz.prog 192 #[spv d A ca M cm] w fun e w'=>e=.returned (.int .u64 (swd d:Nat))∧Below w.heap.size w w':=by
 obtain ⟨f,p,z,an,aw,mn,mw,s⟩:=d
 simp only at hz hp
 unfold spv swd
 simp only
 obtain ⟨z0,z1⟩:=hz
 obtain ⟨p0,p1⟩:=hp
 have h1:(((p * 16).toNat:Nat):Int)=p * 16:=by omega
 have h2:((z.toNat:Nat):Int)=z:=by omega
 by_cases h:z=0
 ·rw [if_pos h]
  have f1:(z == 0)=true:=by simp [h]
  have H1:=Lib.hid h1
  clear h h1 h2
  go_enter Tryz.func192,Tryz.ntmps192
  go_wp2
  go_ret
  exact ⟨by rw [H1.out];rfl,bX⟩
 ·rw [if_neg h]
  have f1:(z == 0)=false:=by simpa using h
  have H2:=Lib.hid h2
  clear h h1 h2
  go_enter Tryz.func192,Tryz.ntmps192
  go_wp2
  go_ret
  exact ⟨by rw [H2.out];rfl,bX⟩
end
def ixN:List Nat → Nat → Nat
 | [],_=>0
 | x :: t,a=>if x=a then 0 else ixN t a + 1
theorem ixN_hit {t:List Nat} {a k:Nat} (hk:k < t.length) (h:t.getD k 0=a) (hb:∀ j,j < k → t.getD j 0 ≠ a):ixN t a=k:=by
 induction t generalizing k with
 | nil=>simp at hk
 | cons x t ih=>
  unfold ixN
  cases k with
  | zero=>
   simp only [List.getD_cons_zero] at h
   rw [if_pos h]
  | succ k=>
   have h0:=hb 0 (by omega)
   simp only [List.getD_cons_zero] at h0
   rw [if_neg h0]
   simp only [List.length_cons] at hk
   simp only [List.getD_cons_succ] at h
   rw [ih (by omega) h (fun j hj=>by have:=hb (j + 1) (by omega);simpa using this)]
theorem ixN_miss {t:List Nat} {a:Nat} (hb:∀ j,j < t.length → t.getD j 0 ≠ a):ixN t a=t.length:=by
 induction t with
 | nil=>rfl
 | cons x t ih=>
  unfold ixN
  have h0:=hb 0 (by simp)
  simp only [List.getD_cons_zero] at h0
  rw [if_neg h0,ih (fun j hj=>by have:=hb (j + 1) (by simp;omega);simpa using this)]
  simp
theorem ixN_get {t:List Nat} {a:Nat} (h:ixN t a < t.length):t.getD (ixN t a) 0=a∧∀ j,j < ixN t a → t.getD j 0 ≠ a:=by
 induction t with
 | nil=>simp at h
 | cons x t ih=>
  unfold ixN at h ⊢
  by_cases hx:x=a
  ·rw [if_pos hx]
   exact ⟨by simpa using hx,fun j hj=>by omega⟩
  ·rw [if_neg hx] at h ⊢
   simp only [List.length_cons] at h
   obtain ⟨g1,g2⟩:=ih (by omega)
   refine ⟨by simpa using g1,fun j hj=>?_⟩
   cases j with
   | zero=>simpa using hx
   | succ j=>have:=g2 j (by omega);simpa using this
theorem ixN_no {t:List Nat} {a:Nat} (h:¬ ixN t a < t.length):∀ j,j < t.length → t.getD j 0 ≠ a:=fun j hj e=>by
 have:∃ k,k < t.length∧t.getD k 0=a∧∀ i,i < k → t.getD i 0 ≠ a:=by
  clear h
  induction j using Nat.strongRecOn with
  | _ j ih=>
   by_cases hh:∃ i,i < j∧t.getD i 0=a
   ·obtain ⟨i,h1,h2⟩:=hh
    exact ih i h1 (by omega) h2
   ·exact ⟨j,hj,e,fun i hi h2=>hh ⟨i,hi,h2⟩⟩
 obtain ⟨k,h1,h2,h3⟩:=this
 rw [ixN_hit h1 h2 h3] at h
 exact h h1
def hin (t:List Nat) (a:Nat):Nat:=if a ≠ 0∧ixN t a < t.length then ixN t a + 1 else 0
theorem hin_zero (t:List Nat):hin t 0=0:=by simp [hin]
theorem hin_hit {t:List Nat} {a k:Nat} (ha:a ≠ 0) (hk:k < t.length) (h:t.getD k 0=a) (hb:∀ j,j < k → t.getD j 0 ≠ a):hin t a=k + 1:=by
 unfold hin
 rw [ixN_hit hk h hb,if_pos ⟨ha,hk⟩]
theorem hin_miss {t:List Nat} {a:Nat} (hb:∀ j,j < t.length → t.getD j 0 ≠ a):hin t a=0:=by
 unfold hin
 rw [ixN_miss hb,if_neg (by omega)]
theorem hin_le (t:List Nat) (a:Nat):hin t a ≤ t.length:=by
 unfold hin
 split <;> omega
theorem hin_pos {t:List Nat} {a:Nat} (h:hin t a ≠ 0):a ≠ 0∧hin t a ≤ t.length∧t.getD (hin t a - 1) 0=a∧∀ j,j < hin t a - 1 → t.getD j 0 ≠ a:=by
 unfold hin at h ⊢
 split at h
 ·rename_i hh
  rw [if_pos hh]
  obtain ⟨g1,g2⟩:=ixN_get hh.2
  exact ⟨hh.1,by omega,g1,g2⟩
 ·exact absurd rfl h
theorem getD_take (t:List Nat) (i j:Nat) (h:j < i):(t.take i).getD j 0=t.getD j 0:=by
 rw [List.getD_eq_getElem?_getD,List.getD_eq_getElem?_getD,List.getElem?_take_of_lt h]
def AloneW (t:List Nat) (i:Nat):Prop:=t.getD i 0=0 ∨ ∀ j,j < i → t.getD j 0 ≠ t.getD i 0
def OkW (t:List Nat):Prop:=t.length ≤ 64∧∀ i,i < t.length → AloneW t i
theorem getD_snoc (t:List Nat) (a j:Nat):(t ++ [a]).getD j 0=if j < t.length then t.getD j 0 else if j=t.length then a else 0:=by
 rw [List.getD_eq_getElem?_getD,List.getElem?_append]
 split
 ·rw [List.getD_eq_getElem?_getD]
 ·rename_i h
  by_cases e:j=t.length
  ·subst e;simp
  ·rw [if_neg e,List.getElem?_eq_none (by simp;omega)]
   rfl
def clrT (t gs:List Nat):List Nat:=t.map fun a=>if a ∈ gs then 0 else a
def goesW (t gs:List Nat) (i:Nat):Bool:=decide (t.getD i 0 ≠ 0∧t.getD i 0 ∈ gs)
def clrH (t gs:List Nat):Nat → List Int
 | 0=>[]
 | k + 1=>clrH t gs k ++ (if goesW t gs k then [((k + 1:Nat):Int)] else [])
theorem getD_setN (xs:List Nat) (i j v:Nat) (hi:i < xs.length):(xs.set i v).getD j 0=if j=i then v else xs.getD j 0:=by
 rw [List.getD_eq_getElem?_getD,List.getElem?_set,List.getD_eq_getElem?_getD]
 by_cases h:i=j
 ·subst h
  simp [hi]
 ·rw [if_neg h,if_neg (fun e=>h e.symm)]
def MkE (t:List Nat) (a:Nat) (r:List Nat) (h:Nat) (y:Int):Prop:=
 (¬ OkW t∧r=[]∧h=0∧y=2) ∨ (OkW t∧a=0∧r=t∧h=0∧y=7) ∨ (OkW t∧a ≠ 0∧hin t a ≠ 0∧r=t∧h=hin t a∧y=0) ∨
 (OkW t∧a ≠ 0∧hin t a=0∧t.length=64∧r=t∧h=0∧y=6) ∨ (OkW t∧a ≠ 0∧hin t a=0∧t.length < 64∧r=t ++ [a]∧h=t.length + 1∧y=0)
theorem MkE.ex (t:List Nat) (a:Nat):∃ r h y,MkE t a r h y:=by
 by_cases h1:OkW t
 ·by_cases h2:a=0
  ·exact ⟨_,_,_,.inr (.inl ⟨h1,h2,rfl,rfl,rfl⟩)⟩
  ·by_cases h3:hin t a=0
   ·by_cases h4:t.length < 64
    ·exact ⟨_,_,_,.inr (.inr (.inr (.inr ⟨h1,h2,h3,h4,rfl,rfl,rfl⟩)))⟩
    ·exact ⟨_,_,_,.inr (.inr (.inr (.inl ⟨h1,h2,h3,by have:=h1.1;omega,rfl,rfl,rfl⟩)))⟩
   ·exact ⟨_,_,_,.inr (.inr (.inl ⟨h1,h2,h3,rfl,rfl,rfl⟩))⟩
 ·exact ⟨_,_,_,.inl ⟨h1,rfl,rfl,rfl⟩⟩
def GetE (t:List Nat) (i:Int) (v:Nat) (y:Int):Prop:=
 (¬ OkW t∧v=0∧y=2) ∨ (OkW t∧¬ (1 ≤ i∧i ≤ t.length)∧v=0∧y=3) ∨ (OkW t∧1 ≤ i∧i ≤ t.length∧v=t.getD (i - 1).toNat 0∧y=0)
theorem GetE.ex (t:List Nat) (i:Int):∃ v y,GetE t i v y:=by
 by_cases h1:OkW t
 ·by_cases h2:1 ≤ i∧i ≤ t.length
  ·exact ⟨_,_,.inr (.inr ⟨h1,h2.1,h2.2,rfl,rfl⟩)⟩
  ·exact ⟨_,_,.inr (.inl ⟨h1,h2,rfl,rfl⟩)⟩
 ·exact ⟨_,_,.inl ⟨h1,rfl,rfl⟩⟩
def ClrE (t gs:List Nat) (r:List Nat) (l:List Int) (y:Int):Prop:=
 (¬ OkW t∧r=[]∧l=[]∧y=2) ∨ (OkW t∧r=clrT t gs∧l=clrH t gs t.length∧y=0)
theorem ClrE.ex (t gs:List Nat):∃ r l y,ClrE t gs r l y:=by
 by_cases h1:OkW t
 ·exact ⟨_,_,_,.inr ⟨h1,rfl,rfl,rfl⟩⟩
 ·exact ⟨_,_,_,.inl ⟨h1,rfl,rfl,rfl⟩⟩
def HanE (t:List Nat) (a:Nat) (h:Nat) (y:Int):Prop:=
 (¬ OkW t∧h=0∧y=2) ∨ (OkW t∧a=0∧h=0∧y=7) ∨ (OkW t∧a ≠ 0∧hin t a=0∧h=0∧y=3) ∨ (OkW t∧a ≠ 0∧hin t a ≠ 0∧h=hin t a∧y=0)
theorem HanE.ex (t:List Nat) (a:Nat):∃ h y,HanE t a h y:=by
 by_cases h1:OkW t
 ·by_cases h2:a=0
  ·exact ⟨_,_,.inr (.inl ⟨h1,h2,rfl,rfl⟩)⟩
  ·by_cases h3:hin t a=0
   ·exact ⟨_,_,.inr (.inr (.inl ⟨h1,h2,h3,rfl,rfl⟩))⟩
   ·exact ⟨_,_,.inr (.inr (.inr ⟨h1,h2,h3,rfl,rfl⟩))⟩
 ·exact ⟨_,_,.inl ⟨h1,rfl,rfl⟩⟩
structure Hp where
 ws:List Nat
 n:Int
 us:List Nat
 l:List Sd
def slA (d:Sd) (k:Nat):Nat:=(d.f * 16 + (k:Int) * d.z).toNat
def curW (d:Sd):List Nat:=if d.s then d.aw else d.mw
def slN (d:Sd):Nat:=(slotsOf d.z).toNat
structure Ob where
 i:Nat
 k:Nat
 a:Nat
 n:Int
 m:Nat
 b:Bool
 c:Bool
def obAt (ws:List Nat) (d:Sd) (i k:Nat):Ob:=⟨i,k,slA d k,unN (ws.getD (slA d k) 0),unM (ws.getD (slA d k) 0),tb d.mw k,tb (curW d) k⟩
def obsS (ws:List Nat) (d:Sd) (i:Nat):Nat → List Ob
 | 0=>[]
 | k + 1=>obsS ws d i k ++ if tb d.aw k then [obAt ws d i k] else []
def obsL (ws:List Nat) (l:List Sd):Nat → List Ob
 | 0=>[]
 | i + 1=>obsL ws l i ++ obsS ws (nth l i) i (slN (nth l i))
def obsH (h:Hp):List Ob:=obsL h.ws h.l h.l.length
def cursH (h:Hp):List Ob:=(obsH h).filter (·.c)
def addrs (os:List Ob):List Nat:=os.map (·.a)
def Leads (t:List Nat) (x:Nat):Prop:=x=0 ∨ hin t x ≠ 0
def Refs (ws t:List Nat) (o:Ob):Prop:=∀ f:Nat,(f:Int) < o.n → o.m.testBit f=true → Leads t (ws.getD (o.a + 1 + f) 0)
def takN (ws:List Nat) (d:Sd) (k:Nat):Nat:=if tb d.aw k then (unN (ws.getD (slA d k) 0)).toNat + 1 else 0
structure SlotOk (ws:List Nat) (d:Sd) (k:Nat):Prop where
 head_:tb d.aw k=true → Un (ws.getD (slA d k) 0)∧fitsB (unN (ws.getD (slA d k) 0)) d=true
 rest:∀ q,takN ws d k ≤ q → q < swd d → ws.getD (slA d k + q) 0=0
def SoundS (ws:List Nat) (d:Sd):Prop:=∀ k,k < slN d → SlotOk ws d k
structure Framed (h:Hp):Prop where
 words:h.ws.length ≤ 16384
 pages:Right h.n h.us
 spans:OkL h.l
 some_:0 < h.n
 long:(h.ws.length:Int)=h.n * 16
def Has (l:List Sd) (i:Int):Prop:=i=0 ∨ ∃ j,j < l.length∧(nth l j).f ≤ i∧i < (nth l j).f + (nth l j).p
structure Owned (h:Hp):Prop where
 in_:∀ j,j < h.l.length → 1 ≤ (nth h.l j).f∧(nth h.l j).f + (nth h.l j).p ≤ h.n
 used:∀ i:Nat,(i:Int) < h.n → (tb h.us i=true ↔ Has h.l i)
structure Filled (h:Hp):Prop where
 free:∀ i:Nat,(i:Int) < h.n → (i=0 ∨ tb h.us i=false) → ∀ q,q < 16 → h.ws.getD (i * 16 + q) 0=0
 sound:∀ j,j < h.l.length → SoundS h.ws (nth h.l j)
def Linked (h:Hp):Prop:=∀ o ∈ cursH h,Refs h.ws (addrs (cursH h)) o
structure OkH (h:Hp):Prop where
 framed:Framed h
 owned:Owned h
 filled:Filled h
 linked:Linked h
theorem mem_obsS {ws:List Nat} {d:Sd} {i:Nat} {o:Ob} {k:Nat} (h:o ∈ obsS ws d i k):∃ j,j < k∧tb d.aw j=true∧o=obAt ws d i j:=by
 induction k with
 | zero=>cases h
 | succ k ih=>
  rw [obsS,List.mem_append] at h
  rcases h with h | h
  ·obtain ⟨j,h1,h2,h3⟩:=ih h
   exact ⟨j,by omega,h2,h3⟩
  ·by_cases hb:tb d.aw k=true
   ·rw [if_pos hb] at h
    simp only [List.mem_singleton] at h
    exact ⟨k,by omega,hb,h⟩
   ·rw [if_neg hb] at h
    cases h
theorem obsS_mem {ws:List Nat} {d:Sd} {i:Nat} {k j:Nat} (hj:j < k) (hb:tb d.aw j=true):obAt ws d i j ∈ obsS ws d i k:=by
 induction k with
 | zero=>omega
 | succ k ih=>
  rw [obsS,List.mem_append]
  by_cases e:j=k
  ·subst e
   rw [if_pos hb]
   exact .inr (by simp)
  ·exact .inl (ih (by omega))
theorem mem_obsL {ws:List Nat} {l:List Sd} {o:Ob} {i:Nat} (h:o ∈ obsL ws l i):∃ j k,j < i∧k < slN (nth l j)∧tb (nth l j).aw k=true∧o=obAt ws (nth l j) j k:=by
 induction i with
 | zero=>cases h
 | succ i ih=>
  rw [obsL,List.mem_append] at h
  rcases h with h | h
  ·obtain ⟨j,k,h1,h2⟩:=ih h
   exact ⟨j,k,by omega,h2⟩
  ·obtain ⟨k,h1,h2,h3⟩:=mem_obsS h
   exact ⟨i,k,by omega,h1,h2,h3⟩
theorem obsL_mem {ws:List Nat} {l:List Sd} {i j k:Nat} (hj:j < i) (hk:k < slN (nth l j)) (hb:tb (nth l j).aw k=true):obAt ws (nth l j) j k ∈ obsL ws l i:=by
 induction i with
 | zero=>omega
 | succ i ih=>
  rw [obsL,List.mem_append]
  by_cases e:j=i
  ·subst e
   exact .inr (obsS_mem hk hb)
  ·exact .inl (ih (by omega))
theorem Ok1.slK {d:Sd} (h:Ok1 d):1 ≤ slN d∧slN d ≤ 8∧((slN d:Nat):Int)=slotsOf d.z:=by
 have:=h.sized.slots
 unfold slN
 omega
theorem Ok1.cur_sub {d:Sd} (h:Ok1 d) {k:Nat} (hk:k < slN d) (hc:tb (curW d) k=true):tb d.aw k=true:=by
 unfold curW at hc
 split at hc
 ·exact hc
 ·exact h.sub k (by unfold slN at hk;omega) hc
theorem Ok1.slA_eq {d:Sd} (h:Ok1 d) {k:Nat} (hk:k < slN d):((slA d k:Nat):Int)=d.f * 16 + (k:Int) * d.z∧0 ≤ (k:Int) * d.z∧(k:Int) * d.z ≤ 16:=by
 have h1:=h.placed.1
 have h2:=h.slK
 have h3:=h.sized.room (k:Int) (by omega) (by omega)
 unfold slA
 omega
theorem Ok1.swd_eq {d:Sd} (h:Ok1 d):((slN d * swd d:Nat):Int)=d.p * 16∧2 ≤ swd d∧swd d ≤ 64∧∀ k:Nat,k < slN d → (k:Int) * d.z=((k * swd d:Nat):Int):=by
 have hN:slN d=(slotsOf d.z).toNat:=rfl
 rw [hN]
 unfold slotsOf swd
 rcases h.sized with ⟨hz | hz | hz | hz,hp⟩ | ⟨hz,hp⟩
 all_goals
  rw [hz]
  refine ⟨by simp;omega,by simp;try omega,by simp;try omega,fun k hk=>?_⟩
  try simp at hk ⊢
  try first | (subst hk;simp) | omega
theorem Ok1.slA_nat {d:Sd} (h:Ok1 d) {k:Nat} (hk:k < slN d):slA d k=d.f.toNat * 16 + k * swd d:=by
 have h1:=(h.slA_eq hk).1
 have h2:=(h.swd_eq).2.2.2 k hk
 have h3:=h.placed.1
 omega
theorem Ok1.slA_in {d:Sd} (h:Ok1 d) {k:Nat} (hk:k < slN d):d.f.toNat * 16 ≤ slA d k∧slA d k + swd d ≤ (d.f + d.p).toNat * 16:=by
 have h1:=h.slA_nat hk
 have h2:=(h.swd_eq).1
 have h3:=h.placed.1
 have h5:=h.sized.slots
 have h4:(k + 1) * swd d ≤ slN d * swd d:=Nat.mul_le_mul_right _ (by omega)
 rw [Nat.add_mul] at h4
 omega
theorem Ok1.slA_step {d:Sd} (h:Ok1 d) {k j:Nat} (hk:k < j) (hj:j < slN d):slA d k + swd d ≤ slA d j:=by
 have h1:=h.slA_nat (k:=k) (by omega)
 have h2:=h.slA_nat hj
 have h4:(k + 1) * swd d ≤ j * swd d:=Nat.mul_le_mul_right _ (by omega)
 rw [Nat.add_mul] at h4
 omega
theorem OkL.farther {l:List Sd} (h:OkL l) {i k:Nat} (hik:i < k) (hk:k < l.length):(nth l i).f + (nth l i).p ≤ (nth l k).f:=by
 induction k with
 | zero=>omega
 | succ k ih=>
  have h1:=h.2.2 k hk
  by_cases e:i=k
  ·subst e;exact h1
  ·have h2:=ih (by omega) (by omega)
   have:=(h.2.1 k (by omega)).sized.slots
   omega
theorem OkL.at_ {l:List Sd} (h:OkL l) {j:Nat} (hj:j < l.length):Ok1 (nth l j):=h.2.1 j hj
theorem unN_bounds (x:Nat):0 ≤ unN x∧unN x ≤ 48:=by
 unfold unN
 split
 ·rename_i h;exact ⟨h.2.1,h.2.2.1⟩
 ·omega
theorem unM_lt (x:Nat):unM x < W64:=by
 unfold unM
 split
 ·exact uM_lt x
 ·unfold W64;omega
structure ObOk (h:Hp) (o:Ob):Prop where
 i:o.i < h.l.length
 k:o.k < slN (nth h.l o.i)
 at_:tb (nth h.l o.i).aw o.k=true
 eq:o=obAt h.ws (nth h.l o.i) o.i o.k
 a0:16 ≤ o.a
 a1:o.a + o.n.toNat + 1 ≤ h.ws.length
 n0:0 ≤ o.n
 n1:o.n ≤ 48
 sh:Sh o.n o.m
 m:o.m < W64
 fit:o.n.toNat + 1 ≤ swd (nth h.l o.i)
theorem OkH.ob {h:Hp} (hf:Framed h) (ho:Owned h) (hs:Filled h) {o:Ob} (hm:o ∈ obsH h):ObOk h o:=by
 obtain ⟨j,k,h1,h2,h3,rfl⟩:=mem_obsL hm
 have ok:=hf.spans.at_ h1
 obtain ⟨hu,hfit⟩:=(hs.sound j h1 k h2).head_ h3
 obtain ⟨b0,b1⟩:=unN_bounds (h.ws.getD (slA (nth h.l j) k) 0)
 have hr:=szn_room b0 b1 hfit
 have hin:=ok.slA_in h2
 have hw:=ho.in_ j h1
 have hl:=hf.long
 have hsz:=ok.sized.slots
 refine ⟨h1,h2,h3,rfl,?_,?_,b0,b1,?_,unM_lt _,hr.1⟩
 ·show 16 ≤ slA (nth h.l j) k
  omega
 ·show slA (nth h.l j) k + (unN (h.ws.getD (slA (nth h.l j) k) 0)).toNat + 1 ≤ h.ws.length
  omega
 ·show Sh (unN _) (unM _)
  unfold unN unM
  rw [if_pos hu,if_pos hu]
  exact hu.2
theorem cursH_mem {h:Hp} {o:Ob} (hm:o ∈ cursH h):o ∈ obsH h∧o.c=true:=by
 unfold cursH at hm
 simpa using hm
theorem obsS_asc {ws:List Nat} {d:Sd} (h:Ok1 d) (i:Nat) {k:Nat} (hk:k ≤ slN d):(obsS ws d i k).Pairwise (fun x y=>x.a + swd d ≤ y.a):=by
 induction k with
 | zero=>exact List.Pairwise.nil
 | succ k ih=>
  rw [obsS,List.pairwise_append]
  refine ⟨ih (by omega),?_,fun x hx y hy=>?_⟩
  ·split
   ·exact List.pairwise_singleton _ _
   ·exact List.Pairwise.nil
  ·obtain ⟨j,h1,_,rfl⟩:=mem_obsS hx
   split at hy
   ·simp only [List.mem_singleton] at hy
    subst hy
    exact h.slA_step h1 (by omega)
   ·cases hy
theorem obsL_asc {ws:List Nat} {l:List Sd} (h:OkL l) {i:Nat} (hi:i ≤ l.length):(obsL ws l i).Pairwise (fun x y=>x.a + 2 ≤ y.a∧x.a < y.a):=by
 induction i with
 | zero=>exact List.Pairwise.nil
 | succ i ih=>
  have ok:=h.at_ (j:=i) (by omega)
  rw [obsL,List.pairwise_append]
  refine ⟨ih (by omega),?_,fun x hx y hy=>?_⟩
  ·exact (obsS_asc ok i (Nat.le_refl _)).imp fun hxy=>by have:=ok.swd_eq;omega
  ·obtain ⟨j,k,h1,h2,_,rfl⟩:=mem_obsL hx
   obtain ⟨q,h3,_,rfl⟩:=mem_obsS hy
   have okj:=h.at_ (j:=j) (by omega)
   have e1:=(okj.slA_in h2).2
   have e2:=(ok.slA_in h3).1
   have e3:=h.farther h1 (by omega)
   have e4:=okj.swd_eq
   have e5:=okj.placed.1
   have e6:=okj.sized.slots
   show slA _ _ + 2 ≤ slA _ _∧slA _ _ < slA _ _
   omega
theorem obsH_asc {h:Hp} (hl:OkL h.l):(obsH h).Pairwise (fun x y=>x.a < y.a):=(obsL_asc hl (Nat.le_refl _)).imp fun h=>h.2
theorem cursH_asc {h:Hp} (hl:OkL h.l):(cursH h).Pairwise (fun x y=>x.a < y.a):=(obsH_asc hl).filter _
def cntB (g:Nat → Bool):Nat → Nat
 | 0=>0
 | k + 1=>cntB g k + if g k then 1 else 0
theorem countTo_cntB (ws:List Nat) (k:Nat):countTo ws k=cntB (tb ws) k:=by
 induction k with
 | zero=>rfl
 | succ k ih=>rw [countTo,cntB,ih]
theorem cntB_mono {f g:Nat → Bool} {n:Nat} (h:∀ i,i < n → f i=true → g i=true):cntB f n ≤ cntB g n:=by
 induction n with
 | zero=>exact Nat.le_refl _
 | succ n ih=>
  rw [cntB,cntB]
  have:=ih fun i hi=>h i (by omega)
  rcases hf:f n with _ | _
  ·simp;omega
  ·rw [h n (by omega) hf];simp;omega
theorem cntB_same {f g:Nat → Bool} {n:Nat} (h:∀ i,i < n → f i=true → g i=true) (he:cntB f n=cntB g n):∀ i,i < n → f i=g i:=by
 induction n with
 | zero=>intro i hi;omega
 | succ n ih=>
  rw [cntB,cntB] at he
  have hm:=cntB_mono (f:=f) (g:=g) (n:=n) fun i hi=>h i (by omega)
  have hn:=h n (by omega)
  have e:f n=g n:=by
   rcases hf:f n with _ | _ <;> rcases hg:g n with _ | _
   ·rfl
   ·rw [hf,hg] at he;simp at he;omega
   ·rw [hf,hg] at hn;simp at hn
   ·rfl
  have e2:=ih (fun i hi=>h i (by omega)) (by rw [e] at he;omega)
  intro i hi
  by_cases hin:i=n
  ·rw [hin];exact e
  ·exact e2 i (by omega)
theorem cntB_congr {f g:Nat → Bool} {n:Nat} (h:∀ i,i < n → f i=g i):cntB f n=cntB g n:=by
 induction n with
 | zero=>rfl
 | succ n ih=>rw [cntB,cntB,ih fun i hi=>h i (by omega),h n (by omega)]
theorem cntB_run {g h:Nat → Bool} {a b n:Nat} (hab:a ≤ b) (hg:∀ i,a ≤ i → i < b → g i=false) (hh:∀ i,i < n → h i=(g i || decide (a ≤ i∧i < b))):cntB h n=cntB g n + (min n b - min n a):=by
 induction n with
 | zero=>simp [cntB]
 | succ n ih=>
  rw [cntB,cntB,ih fun i hi=>hh i (by omega),hh n (by omega)]
  by_cases hin:a ≤ n∧n < b
  ·rw [hg n hin.1 hin.2,decide_eq_true hin]
   simp
   omega
  ·rw [decide_eq_false hin,Bool.or_false]
   have:min (n + 1) b - min (n + 1) a=min n b - min n a:=by omega
   omega
def hasB (l:List Sd) (k:Nat) (i:Nat):Bool:=decide (i=0) || (List.range k).any fun j=>decide ((nth l j).f ≤ (i:Int)∧(i:Int) < (nth l j).f + (nth l j).p)
theorem hasB_succ (l:List Sd) (k i:Nat):hasB l (k + 1) i=(hasB l k i || decide ((nth l k).f ≤ (i:Int)∧(i:Int) < (nth l k).f + (nth l k).p)):=by
 simp [hasB,List.range_succ,Bool.or_assoc]
theorem hasB_iff (l:List Sd) (k i:Nat):hasB l k i=true ↔ (i=0 ∨ ∃ j,j < k∧(nth l j).f ≤ (i:Int)∧(i:Int) < (nth l j).f + (nth l j).p):=by
 simp [hasB]
def sumP (l:List Sd):Nat → Int
 | 0=>1
 | k + 1=>sumP l k + (nth l k).p
theorem sumP_le {l:List Sd} (h:OkL l) {k:Nat} (hk:k ≤ l.length):1 ≤ sumP l k∧sumP l k ≤ 1 + 4 * (k:Int):=by
 induction k with
 | zero=>simp [sumP]
 | succ k ih=>
  have:=ih (by omega)
  have:=(h.at_ (j:=k) (by omega)).sized.slots
  rw [sumP]
  omega
theorem hasB_count {l:List Sd} (h:OkL l) {n:Nat} (hn:0 < n) {k:Nat} (hk:k ≤ l.length) (hf:∀ j,j < k → 1 ≤ (nth l j).f∧(nth l j).f + (nth l j).p ≤ (n:Int)):((cntB (hasB l k) n:Nat):Int)=sumP l k:=by
 induction k with
 | zero=>
  have h0:∀ m,cntB (hasB l 0) (m + 1)=1:=by
   intro m
   induction m with
   | zero=>simp [cntB,hasB]
   | succ m ih=>rw [cntB,ih];simp [hasB]
  obtain ⟨m,rfl⟩:∃ m,n=m + 1:=⟨n - 1,by omega⟩
  rw [h0]
  rfl
 | succ k ih=>
  have hp:=(h.at_ (j:=k) (by omega)).sized.slots
  have hk2:=hf k (by omega)
  have e:=cntB_run (g:=hasB l k) (h:=hasB l (k + 1)) (a:=(nth l k).f.toNat) (b:=((nth l k).f + (nth l k).p).toNat) (n:=n) (by omega)
   (fun i h1 h2=>by
    rw [Bool.eq_false_iff]
    intro hb
    rw [hasB_iff] at hb
    rcases hb with hb | ⟨j,hj,hb⟩
    ·omega
    ·have:=h.farther hj (by omega)
     omega)
   (fun i hi=>by
    rw [hasB_succ]
    congr 1
    rw [decide_eq_decide]
    omega)
  rw [e,sumP]
  have:=ih (by omega) fun j hj=>hf j (by omega)
  omega
structure OwnedC (h:Hp):Prop where
 each:∀ j,j < h.l.length → (nth h.l j).f ≠ 0∧usedB h.us h.n (nth h.l j).f (nth h.l j).p.toNat=true
 count:((countTo h.us h.n.toNat:Nat):Int)=sumP h.l h.l.length
 first:getB h.us h.n 0=true
theorem usedB_iff {us:List Nat} {n f:Int} {c:Nat}:usedB us n f c=true ↔ ∀ j:Nat,j < c → getB us n (f + (j:Int))=true:=by
 unfold usedB
 rw [List.all_eq_true]
 constructor
 ·intro h j hj;exact h j (by simpa using hj)
 ·intro h j hj;exact h j (by simpa using hj)
theorem getB_iff {us:List Nat} {n i:Int}:getB us n i=true ↔ (0 ≤ i∧i < n∧tb us i.toNat=true):=by
 unfold getB
 by_cases h:0 ≤ i∧i < n
 ·rw [if_pos h];simp [h]
 ·rw [if_neg h];simp;intro h1 h2;exact absurd ⟨h1,h2⟩ h
theorem ownedC_iff {h:Hp} (hf:Framed h):OwnedC h ↔ Owned h:=by
 have hl:=hf.spans
 have hn:=hf.some_
 constructor
 ·intro hc
  have hin:∀ j,j < h.l.length → 1 ≤ (nth h.l j).f∧(nth h.l j).f + (nth h.l j).p ≤ h.n:=by
   intro j hj
   obtain ⟨h1,h2⟩:=hc.each j hj
   have ok:=hl.at_ hj
   have hp:=ok.sized.slots
   have h0:=ok.placed.1
   rw [usedB_iff] at h2
   have h3:=getB_iff.1 (h2 ((nth h.l j).p.toNat - 1) (by omega))
   omega
  refine ⟨hin,?_⟩
  have hcnt:=hasB_count hl (n:=h.n.toNat) (by omega) (Nat.le_refl h.l.length) (fun j hj=>by have:=hin j hj;omega)
  have hsub:∀ i,i < h.n.toNat → hasB h.l h.l.length i=true → tb h.us i=true:=by
   intro i hi hb
   rw [hasB_iff] at hb
   rcases hb with rfl | ⟨j,hj,h1,h2⟩
   ·exact (getB_iff.1 hc.first).2.2
   ·obtain ⟨_,h4⟩:=hc.each j hj
    rw [usedB_iff] at h4
    have h5:=getB_iff.1 (h4 (i - (nth h.l j).f.toNat) (by omega))
    have e:((nth h.l j).f + ((i - (nth h.l j).f.toNat:Nat):Int)).toNat=i:=by
     have:=hin j hj
     omega
    rw [e] at h5
    exact h5.2.2
  have hsame:=cntB_same hsub (by
   have:=hc.count
   rw [countTo_cntB] at this
   omega)
  intro i hi
  rw [← hsame i (by omega),hasB_iff]
  unfold Has
  constructor
  ·rintro (h | h)
   ·exact .inl (by omega)
   ·exact .inr h
  ·rintro (h | h)
   ·exact .inl (by omega)
   ·exact .inr h
 ·intro ho
  refine ⟨fun j hj=>⟨by have:=ho.in_ j hj;omega,?_⟩,?_,?_⟩
  ·rw [usedB_iff]
   intro q hq
   have h1:=ho.in_ j hj
   have ok:=hl.at_ hj
   have h0:=ok.placed.1
   rw [getB_iff]
   refine ⟨by omega,by omega,?_⟩
   refine (ho.used _ (by omega)).2 (.inr ⟨j,hj,by omega,by omega⟩)
  ·have hcnt:=hasB_count hl (n:=h.n.toNat) (by omega) (Nat.le_refl h.l.length) (fun j hj=>by have:=ho.in_ j hj;omega)
   rw [countTo_cntB,← hcnt]
   congr 1
   apply cntB_congr
   intro i hi
   rw [Bool.eq_iff_iff,hasB_iff,ho.used i (by omega)]
   unfold Has
   constructor
   ·rintro (h | h)
    ·exact .inl (by omega)
    ·exact .inr h
   ·rintro (h | h)
    ·exact .inl (by omega)
    ·exact .inr h
  ·rw [getB_iff]
   exact ⟨by omega,hn,(ho.used 0 (by omega)).2 (.inl rfl)⟩
section
variable {w:World} {n:Int} {A U V:Option Addr} {ws us:List Nat} {l:List Sd} (ca cu cv:Nat)
set_option maxHeartbeats 1000000 in
theorem zframed_any (hr:Row w w.heap.size A ws) (hu:Row w w.heap.size U us) (hv:SRow w w.heap.size V l) (h2:l.length ≤ 17592186044416) (h3:ws.length ≤ 17592186044416) (b:Bool) (hb:b=true ↔ Framed ⟨ws,n,us,l⟩) :
  Calls Tryz.prog 151 #[hpv A ws.length ca n U us.length cu V l.length cv] w fun e w'=>e=.returned (.bool b)∧Below w.heap.size w w':=by
 have HA:=Lib.hid fun (w:World)=>acheck_any (w:=w) (A:=A) (ws:=ws) ca
 have HB:=Lib.hid hb
 unfold hpv
 by_cases q1:ws.length ≤ 16384
 ·have e1:errA ws True=0:=(resA_in (us:=[]) q1 trivial).2
  rw [e1] at HA
  by_cases q2:Right n us
  ·have HP:=Lib.hid fun (w:World) hu=>pcheck_ok (w:=w) (n:=n) (A:=U) (ws:=us) cu hu q2
   by_cases q3:OkL l
   ·have HS:=Lib.hid fun (w:World) hv=>scheck_any (w:=w) (A:=V) (l:=l) cv hv h2 0 (.inl ⟨q3,rfl⟩)
    have hn:=q2.1
    have hn2:=q2.2.1
    have hmul:IntKind.i64.wrap (n * 16)=n * 16:=by rw [IntKind.wrap_i64];omega
    by_cases q4:0 < n
    ·have d4:decide (0 < n)=true:=decide_eq_true q4
     by_cases q5:(ws.length:Int)=n * 16
     ·have d5:((ws.length:Int) == n * 16)=true:=by simp [q5]
      obtain rfl:b=true:=HB.out.2 ⟨q1,q2,q3,q4,q5⟩
      clear q1 q2 q3 q5 hb e1
      go_enter Tryz.func151,Tryz.ntmps151
      go_wp2_with (first
       | (go_at_call 216;refine (HA.out _).mono ?_;rintro e w1 ⟨rfl,hb_w1⟩;obtain ⟨hc_w1,hf_w1⟩:=bcell hb_w1;have hz_w1_w_0:w.heap.size < w1.heap.size:=lY hb_w1.size;have hs_w1:=hb_w1.size;(try simp only [zZ] at hs_w1))
       | (go_at_call 215;refine (HP.out _ (hu.later bX)).mono ?_;rintro e w2 ⟨rfl,hb_w2⟩;obtain ⟨hc_w2,hf_w2⟩:=bcell hb_w2;have hz_w2_w_0:w.heap.size < w2.heap.size:=lY hb_w2.size;have hs_w2:=hb_w2.size;(try simp only [zZ] at hs_w2))
       | (go_at_call 217;refine (HS.out _ (hv.later bX)).mono ?_;rintro e w3 ⟨rfl,hb_w3⟩;obtain ⟨hc_w3,hf_w3⟩:=bcell hb_w3;have hz_w3_w_0:w.heap.size < w3.heap.size:=lY hb_w3.size;have hs_w3:=hb_w3.size;(try simp only [zZ] at hs_w3)))
      go_ret
      exact ⟨rfl,bX⟩
     ·have d5:((ws.length:Int) == n * 16)=false:=by simp [q5]
      obtain rfl:b=false:=by rcases b with _ | _;rfl;exact absurd (HB.out.1 rfl).long q5
      clear q1 q2 q3 q5 hb e1
      go_enter Tryz.func151,Tryz.ntmps151
      go_wp2_with (first
       | (go_at_call 216;refine (HA.out _).mono ?_;rintro e w1 ⟨rfl,hb_w1⟩;obtain ⟨hc_w1,hf_w1⟩:=bcell hb_w1;have hz_w1_w_0:w.heap.size < w1.heap.size:=lY hb_w1.size;have hs_w1:=hb_w1.size;(try simp only [zZ] at hs_w1))
       | (go_at_call 215;refine (HP.out _ (hu.later bX)).mono ?_;rintro e w2 ⟨rfl,hb_w2⟩;obtain ⟨hc_w2,hf_w2⟩:=bcell hb_w2;have hz_w2_w_0:w.heap.size < w2.heap.size:=lY hb_w2.size;have hs_w2:=hb_w2.size;(try simp only [zZ] at hs_w2))
       | (go_at_call 217;refine (HS.out _ (hv.later bX)).mono ?_;rintro e w3 ⟨rfl,hb_w3⟩;obtain ⟨hc_w3,hf_w3⟩:=bcell hb_w3;have hz_w3_w_0:w.heap.size < w3.heap.size:=lY hb_w3.size;have hs_w3:=hb_w3.size;(try simp only [zZ] at hs_w3)))
      go_ret
      exact ⟨rfl,bX⟩
    ·have d4:decide (0 < n)=false:=decide_eq_false q4
     obtain rfl:b=false:=by rcases b with _ | _;rfl;exact absurd (HB.out.1 rfl).some_ q4
     clear q1 q2 q3 q4 hb e1
     go_enter Tryz.func151,Tryz.ntmps151
     go_wp2_with (first
      | (go_at_call 216;refine (HA.out _).mono ?_;rintro e w1 ⟨rfl,hb_w1⟩;obtain ⟨hc_w1,hf_w1⟩:=bcell hb_w1;have hz_w1_w_0:w.heap.size < w1.heap.size:=lY hb_w1.size;have hs_w1:=hb_w1.size;(try simp only [zZ] at hs_w1))
      | (go_at_call 215;refine (HP.out _ (hu.later bX)).mono ?_;rintro e w2 ⟨rfl,hb_w2⟩;obtain ⟨hc_w2,hf_w2⟩:=bcell hb_w2;have hz_w2_w_0:w.heap.size < w2.heap.size:=lY hb_w2.size;have hs_w2:=hb_w2.size;(try simp only [zZ] at hs_w2))
      | (go_at_call 217;refine (HS.out _ (hv.later bX)).mono ?_;rintro e w3 ⟨rfl,hb_w3⟩;obtain ⟨hc_w3,hf_w3⟩:=bcell hb_w3;have hz_w3_w_0:w.heap.size < w3.heap.size:=lY hb_w3.size;have hs_w3:=hb_w3.size;(try simp only [zZ] at hs_w3)))
     go_ret
     exact ⟨rfl,bX⟩
   ·have HS:=Lib.hid fun (w:World) hv=>scheck_any (w:=w) (A:=V) (l:=l) cv hv h2 2 (.inr ⟨q3,rfl⟩)
    obtain rfl:b=false:=by rcases b with _ | _;rfl;exact absurd (HB.out.1 rfl).spans q3
    clear q1 q2 q3 hb e1
    go_enter Tryz.func151,Tryz.ntmps151
    go_wp2_with (first
     | (go_at_call 216;refine (HA.out _).mono ?_;rintro e w1 ⟨rfl,hb_w1⟩;obtain ⟨hc_w1,hf_w1⟩:=bcell hb_w1;have hz_w1_w_0:w.heap.size < w1.heap.size:=lY hb_w1.size;have hs_w1:=hb_w1.size;(try simp only [zZ] at hs_w1))
     | (go_at_call 215;refine (HP.out _ (hu.later bX)).mono ?_;rintro e w2 ⟨rfl,hb_w2⟩;obtain ⟨hc_w2,hf_w2⟩:=bcell hb_w2;have hz_w2_w_0:w.heap.size < w2.heap.size:=lY hb_w2.size;have hs_w2:=hb_w2.size;(try simp only [zZ] at hs_w2))
     | (go_at_call 217;refine (HS.out _ (hv.later bX)).mono ?_;rintro e w3 ⟨rfl,hb_w3⟩;obtain ⟨hc_w3,hf_w3⟩:=bcell hb_w3;have hz_w3_w_0:w.heap.size < w3.heap.size:=lY hb_w3.size;have hs_w3:=hb_w3.size;(try simp only [zZ] at hs_w3)))
    go_ret
    exact ⟨rfl,bX⟩
  ·have HP:=Lib.hid fun (w:World) hu=>pcheck_bad (w:=w) (n:=n) (A:=U) (ws:=us) cu hu q2
   obtain rfl:b=false:=by rcases b with _ | _;rfl;exact absurd (HB.out.1 rfl).pages q2
   clear q1 q2 hb e1
   go_enter Tryz.func151,Tryz.ntmps151
   go_wp2_with (first
    | (go_at_call 216;refine (HA.out _).mono ?_;rintro e w1 ⟨rfl,hb_w1⟩;obtain ⟨hc_w1,hf_w1⟩:=bcell hb_w1;have hz_w1_w_0:w.heap.size < w1.heap.size:=lY hb_w1.size;have hs_w1:=hb_w1.size;(try simp only [zZ] at hs_w1))
    | (go_at_call 215;refine (HP.out _ (hu.later bX)).mono ?_;rintro e w2 ⟨rfl,hb_w2⟩;obtain ⟨hc_w2,hf_w2⟩:=bcell hb_w2;have hz_w2_w_0:w.heap.size < w2.heap.size:=lY hb_w2.size;have hs_w2:=hb_w2.size;(try simp only [zZ] at hs_w2)))
   go_ret
   exact ⟨rfl,bX⟩
 ·have e1:errA ws True=2:=(resA_bad (us:=[]) (p:=True) q1).2
  rw [e1] at HA
  obtain rfl:b=false:=by rcases b with _ | _;rfl;exact absurd (HB.out.1 rfl).words q1
  clear q1 hb e1
  go_enter Tryz.func151,Tryz.ntmps151
  go_wp2_with (go_at_call 216;refine (HA.out _).mono ?_;rintro e w1 ⟨rfl,hb_w1⟩;obtain ⟨hc_w1,hf_w1⟩:=bcell hb_w1;have hz_w1_w_0:w.heap.size < w1.heap.size:=lY hb_w1.size;have hs_w1:=hb_w1.size;(try simp only [zZ] at hs_w1))
  go_ret
  exact ⟨rfl,bX⟩
end
section
variable {w:World} {n:Int} {A U V:Option Addr} {ws us:List Nat} {l:List Sd} (ca cu cv na:Nat)
set_option maxHeartbeats 2000000 in
theorem zowned_any (hu:Row w w.heap.size U us) (hv:SRow w w.heap.size V l) (hF:Framed ⟨ws,n,us,l⟩) (b:Bool) (hb:b=true ↔ OwnedC ⟨ws,n,us,l⟩) :
  Calls Tryz.prog 152 #[hpv A na ca n U us.length cu V l.length cv] w fun e w'=>e=.returned (.bool b)∧Below w.heap.size w w':=by
 have HB:=Lib.hid hb
 have HR:=Lib.hid hF.pages
 have HF:=Lib.hid hF
 have HL:=Lib.hid hF.spans
 have hn:=hF.some_
 have hn2:=hF.pages.2.1
 have hl256:=hF.spans.1
 simp only at hn hn2 hl256
 obtain ⟨N,rfl⟩:∃ N:Nat,n=(N:Int):=⟨n.toNat,by omega⟩
 have HC:=Lib.hid fun (w:World) hu=>count_ok (w:=w) (n:=(N:Int)) (A:=U) (ws:=us) cu hu HR.out
 have HU:=Lib.hid fun (w:World) hu f c f0 f1 c1 b hb=>zused_any (w:=w) (n:=(N:Int)) (U:=U) (us:=us) (A:=A) (V:=V) (ca:=ca) (cu:=cu) (cv:=cv) (na:=na) (nv:=l.length) f c hu HR.out f0 f1 c1 b hb
 have HM:=Lib.hid fun k (hk:k ≤ l.length)=>sumP_le HL.out hk
 clear hb hF
 unfold hpv
 go_enter Tryz.func152,Tryz.ntmps152
 go_wp2_with fail
 go_loopw [3,12] (fun c ii wr=>∃ k:Nat,ii=.int .i64 (k:Nat)∧k ≤ l.length∧c=.int .i64 (sumP l k)∧Hid (∀ j,j < k → (nth l j).f ≠ 0∧usedB us N (nth l j).f (nth l j).p.toNat=true) ∧
  (wr.cell? ⟨w.heap.size,0,none⟩=some (.slice A na ca)∧wr.cell? ⟨w.heap.size,1,none⟩=some (.int .i64 N)∧wr.cell? ⟨w.heap.size,2,none⟩=some (.slice U us.length cu)∧wr.cell? ⟨w.heap.size,3,none⟩=some (.slice V l.length cv))∧w.heap.size + 1 ≤ wr.heap.size∧Below w.heap.size w wr) (fun _ ii _=>l.length - (intOf ii).toNat)
 case atStart=>exact ⟨0,rfl,Nat.zero_le _,rfl,Lib.hid (fun j hj=>by omega),⟨by simp,by simp,by simp,by simp⟩,lX,bX⟩
 case round=>
  obtain ⟨k,rfl,hk,rfl,hT,⟨m0,m1,m2,m3⟩,hsz,hb_wr⟩:=hrel
  have hsr:=hb_wr.size
  have p0l:w.heap.size < wr.heap.size:=by omega
  have hM:=HM.out k hk
  by_cases hlt:k < l.length
  ·obtain ⟨bb,off,rfl,hbb,hc⟩:=(hv.later hb_wr).at_ (by omega)
   obtain ⟨Aa,caa,Am,cam,c8,ra,rm⟩:=hc k hlt
   have ok:=HL.out.at_ hlt
   have hp:=ok.sized.slots
   have hpl:=ok.placed
   unfold Placed at hpl
   obtain ⟨pl0,pl1⟩:=hpl
   have HS:Hid (sumP l (k + 1)=sumP l k + (nth l k).p):=Lib.hid rfl
   obtain ⟨d,hd⟩:∃ d,Hid (nth l k=d):=⟨_,rfl⟩
   have HT1:(nth l k).f ≠ 0 → usedB us N (nth l k).f (nth l k).p.toNat=true → Hid (∀ j,j < k + 1 → (nth l j).f ≠ 0∧usedB us N (nth l j).f (nth l j).p.toNat=true):=fun e1 e2=>Lib.hid (fun j hj=>by
    by_cases e:j=k
    ·rw [e];exact ⟨e1,e2⟩
    ·exact hT.out j (by omega))
   have HN:b=true → (nth l k).f ≠ 0∧usedB us N (nth l k).f (nth l k).p.toNat=true:=fun hb=>(HB.out.1 hb).each k hlt
   rw [hd.out] at c8 ra rm ok hp pl0 pl1 HS HT1 HN
   obtain ⟨c0,c1,c2,c3,c4,c5,c6,c7⟩:=id c8
   clear hc ok
   obtain ⟨f,p,z,an,aw,mn,mw,s⟩:=d
   simp only at *
   obtain ⟨S,hS⟩:∃ S,Hid (sumP l k=S):=⟨_,rfl⟩
   rw [hS.out] at hM ⊢
   rw [hS.out] at HS
   have hws:IntKind.i64.wrap (S + p)=S + p:=by rw [IntKind.wrap_i64];omega
   by_cases hf:f=0
   ·subst hf
    obtain rfl:b=false:=by rcases b with _ | _;rfl;exact absurd rfl (HN rfl).1
    clear HT1 HN
    go_wp2
    go_ret
    exact ⟨rfl,bX⟩
   ·have d1:(f == 0)=false:=by simpa using hf
    obtain ⟨P,rfl⟩:∃ P:Nat,p=(P:Int):=⟨p.toNat,by omega⟩
    rcases hub:usedB us N f P with _ | _
    ·obtain rfl:b=false:=by
      rcases b with _ | _
      ·rfl
      ·have:=(HN rfl).2;rw [Int.toNat_natCast,hub] at this;cases this
     have HUB:=Lib.hid hub
     clear hub HT1 HN hf
     go_wp2_with (go_at_call 218;refine (HU.out _ ((hu.later hb_wr).later bX) f P (by omega) (by omega) (by omega) false HUB.out).mono ?_;rintro e w1 ⟨rfl,hb_w1⟩;obtain ⟨hc_w1,hf_w1⟩:=bcell hb_w1;have hz_w1_wr_0:wr.heap.size < w1.heap.size:=lY hb_w1.size;have hs_w1:=hb_w1.size;(try simp only [zZ] at hs_w1))
     go_ret
     exact ⟨rfl,bX⟩
    ·have HUB:=Lib.hid hub
     have HT2:=HT1 hf (by rw [Int.toNat_natCast];exact hub)
     clear hub HT1 HN hf
     go_wp2_with (go_at_call 218;refine (HU.out _ ((hu.later hb_wr).later bX) f P (by omega) (by omega) (by omega) true HUB.out).mono ?_;rintro e w1 ⟨rfl,hb_w1⟩;obtain ⟨hc_w1,hf_w1⟩:=bcell hb_w1;have hz_w1_wr_0:wr.heap.size < w1.heap.size:=lY hb_w1.size;have hs_w1:=hb_w1.size;(try simp only [zZ] at hs_w1);have n0:=(hc_w1 w.heap.size 0 lX).trans ((World.cell?_alloc_lt _ _ ⟨_,_,_⟩ lX).trans m0);have n1:=(hc_w1 w.heap.size 1 lX).trans ((World.cell?_alloc_lt _ _ ⟨_,_,_⟩ lX).trans m1);have n2:=(hc_w1 w.heap.size 2 lX).trans ((World.cell?_alloc_lt _ _ ⟨_,_,_⟩ lX).trans m2);have n3:=(hc_w1 w.heap.size 3 lX).trans ((World.cell?_alloc_lt _ _ ⟨_,_,_⟩ lX).trans m3))
     go_roundw
     case rel=>exact ⟨k + 1,by go_num,by omega,by rw [HS.out],HT2,⟨n0,n1,n2,n3⟩,lX,bX⟩
     case measure=>simp [intOf];omega
  ·obtain rfl:k=l.length:=by omega
   have h1:=countTo_le us N
   obtain ⟨C,hC⟩:∃ C,Hid (countTo us N=C):=⟨_,rfl⟩
   obtain ⟨S,hS⟩:∃ S,Hid (sumP l l.length=S):=⟨_,rfl⟩
   rw [hS.out] at hM ⊢
   rw [hC.out] at h1
   rw [Int.toNat_natCast,hC.out] at HC
   by_cases hcs:(C:Int)=S
   ·have d1:((C:Int) == S)=true:=by simp [hcs]
    rcases hub:usedB us N 0 1 with _ | _
    ·obtain rfl:b=false:=by
      rcases b with _ | _
      ·rfl
      ·have:=(HB.out.1 rfl).first
       have h2:usedB us N 0 1=true:=by rw [usedB_iff];intro j hj;obtain rfl:j=0:=by omega
                                       simpa using this
       rw [hub] at h2;cases h2
     have HUB:=Lib.hid hub
     clear hub hcs
     go_wp2_with (first
      | (go_at_call 67;refine (HC.out _ ((hu.later hb_wr).later bX)).mono ?_;rintro e w1 ⟨rfl,hb_w1⟩;obtain ⟨hc_w1,hf_w1⟩:=bcell hb_w1;have hs_w1:=hb_w1.size;(try simp only [zZ] at hs_w1);have n0:=(hc_w1 w.heap.size 0 lX).trans m0;have n1:=(hc_w1 w.heap.size 1 lX).trans m1;have n2:=(hc_w1 w.heap.size 2 lX).trans m2;have n3:=(hc_w1 w.heap.size 3 lX).trans m3)
      | (go_at_call 218;refine (HU.out _ ((hu.later hb_wr).later bX) 0 1 (by omega) (by omega) (by omega) false HUB.out).mono ?_;rintro e w2 ⟨rfl,hb_w2⟩;obtain ⟨hc_w2,hf_w2⟩:=bcell hb_w2;have hs_w2:=hb_w2.size;(try simp only [zZ] at hs_w2)))
     go_ret
     exact ⟨rfl,bX⟩
    ·obtain rfl:b=true:=HB.out.2 ⟨hT.out,by show ((countTo us (N:Int).toNat:Nat):Int)=sumP l l.length;rw [Int.toNat_natCast,hC.out,hS.out];exact hcs,by rw [usedB_iff] at hub;simpa using hub 0 (by omega)⟩
     have HUB:=Lib.hid hub
     clear hub hcs
     go_wp2_with (first
      | (go_at_call 67;refine (HC.out _ ((hu.later hb_wr).later bX)).mono ?_;rintro e w1 ⟨rfl,hb_w1⟩;obtain ⟨hc_w1,hf_w1⟩:=bcell hb_w1;have hs_w1:=hb_w1.size;(try simp only [zZ] at hs_w1);have n0:=(hc_w1 w.heap.size 0 lX).trans m0;have n1:=(hc_w1 w.heap.size 1 lX).trans m1;have n2:=(hc_w1 w.heap.size 2 lX).trans m2;have n3:=(hc_w1 w.heap.size 3 lX).trans m3)
      | (go_at_call 218;refine (HU.out _ ((hu.later hb_wr).later bX) 0 1 (by omega) (by omega) (by omega) true HUB.out).mono ?_;rintro e w2 ⟨rfl,hb_w2⟩;obtain ⟨hc_w2,hf_w2⟩:=bcell hb_w2;have hs_w2:=hb_w2.size;(try simp only [zZ] at hs_w2)))
     go_ret
     exact ⟨rfl,bX⟩
   ·have d1:((C:Int) == S)=false:=by simpa using hcs
    obtain rfl:b=false:=by
     rcases b with _ | _
     ·rfl
     ·have h4:=(HB.out.1 rfl).count
      simp only at h4
      rw [Int.toNat_natCast,hC.out,hS.out] at h4
      exact absurd h4 hcs
    clear hcs
    go_wp2_with (go_at_call 67;refine (HC.out _ ((hu.later hb_wr).later bX)).mono ?_;rintro e w1 ⟨rfl,hb_w1⟩;obtain ⟨hc_w1,hf_w1⟩:=bcell hb_w1;have hs_w1:=hb_w1.size;(try simp only [zZ] at hs_w1))
    go_ret
    exact ⟨rfl,bX⟩
end
theorem qA {α:Type} {xs:List α} {i:Nat} (h:i < xs.toArray.size):xs.toArray[i]=xs[i]'(by simpa using h):=List.getElem_toArray h
theorem qB {α:Type} {x:α} {t:List α} {h:0 < (x :: t).length}:(x :: t)[0]=x:=List.getElem_cons_zero _ _ _
theorem qC {α:Type} {x:α} {t:List α} {i:Nat} {h:i + 1 < (x :: t).length}:(x :: t)[i + 1]=t[i]'(by simpa using h):=List.getElem_cons_succ _ _ _ _
theorem qD {α:Type} {xs:List α} {i:Nat} {x:α}:xs.toArray.setIfInBounds i x=(xs.set i x).toArray:=List.setIfInBounds_toArray _ _ _
theorem qE {α:Type} {x y:α} {t:List α}:(x :: t).set 0 y=y :: t:=List.set_cons_zero
theorem qF {α:Type} {x y:α} {t:List α} {i:Nat}:(x :: t).set (i + 1) y=x :: t.set i y:=List.set_cons_succ
theorem qZ:(∀ {α:Type} {xs:List α} {i:Nat} (h:i < xs.toArray.size),xs.toArray[i]=xs[i]'(by simpa using h))∧(∀ {α:Type} {x:α} {t:List α} {h:0 < (x :: t).length},(x :: t)[0]=x)∧(∀ {α:Type} {x:α} {t:List α} {i:Nat} {h:i + 1 < (x :: t).length},(x :: t)[i + 1]=t[i]'(by simpa using h))∧(∀ {α:Type} {xs:List α} {i:Nat} {x:α},xs.toArray.setIfInBounds i x=(xs.set i x).toArray)∧(∀ {α:Type} {x y:α} {t:List α},(x :: t).set 0 y=y :: t)∧(∀ {α:Type} {x y:α} {t:List α} {i:Nat},(x :: t).set (i + 1) y=x :: t.set i y):=
 ⟨fun h=>qA h,qB,qC,qD,qE,qF⟩
theorem tY {P:Program} {ops:Array Oper} {Q:Exit → Act → World → Prop} {md:Region.Mode} {S:World → Prop} (i:Nat) {oi:Oper} {v:Value} {fuel:Nat} {listed:Array Bool} {a:Act} {w:World}
  (h:wpAnyH P md ops Q S fuel (listed.setIfInBounds i true) (a.put oi.dst v) w) (hi:ops[i]?=some oi:=by rfl) (hs:Region.noSelect ops=true:=by kernel_rfl) (hf:Region.free md ops listed i=true:=by kernel_rfl) (hr:(Region.ready md ops listed).contains i=true:=by kernel_rfl)
  (hQ:∀ c a w,Q (.panic c) (a.put oi.dst v) w → Q (.panic c) a w:=by exact fun _ _ _ h=>h) (hw:Region.wanted oi (yielded ops a.tmps)=true:=by rfl)
  (hy:∀ w,S w → (execOp a.eval oi).run P w=.ok (.value v) w:=by (intro w hSw;(try dsimp only at hSw);go_simp;first | done | with_reducible rfl)) (hS:S w:=by assumption):wpAnyH P md ops Q S (fuel + 1) listed a w:=
 wpAnyH_take hi hs hf hr hQ (Or.inl ⟨hw,hy⟩) hS h
theorem tR {P:Program} {ops:Array Oper} {Q:Exit → Act → World → Prop} {md:Region.Mode} {S:World → Prop} (i:Nat) {o:Oper} {fuel:Nat} {listed:Array Bool} {a:Act} {w:World}
  (h:∀ K':Act → World → Prop,Shut (∀ a w,S w → (S w → wpAnyH P md ops Q S fuel (listed.setIfInBounds i true) a w) → K' a w) → if Region.wanted o (yielded ops a.tmps)=true then Oper.wp P o a w K' Q else K' (a.put o.dst undef) w)
  (ho:ops[i]?=some o:=by rfl) (hr:Region.ready md ops listed=[i]:=by kernel_rfl):wpAnyH P md ops Q S (fuel + 1) listed a w:=
 wpAnyH_ready hr (by simp) (AllReadyH.cons ho h AllReadyH.nil)
theorem tN {P:Program} {ops:Array Oper} {Q:Exit → Act → World → Prop} {md:Region.Mode} {S:World → Prop} (i:Nat) {oi:Oper} {fuel:Nat} {listed:Array Bool} {a:Act} {w:World}
  (h:wpAnyH P md ops Q S fuel (listed.setIfInBounds i true) (a.put oi.dst undef) w) (hi:ops[i]?=some oi:=by rfl) (hs:Region.noSelect ops=true:=by kernel_rfl) (hf:Region.free md ops listed i=true:=by kernel_rfl) (hr:(Region.ready md ops listed).contains i=true:=by kernel_rfl)
  (hQ:∀ c a w,Q (.panic c) (a.put oi.dst undef) w → Q (.panic c) a w:=by exact fun _ _ _ h=>h) (hw:Region.wanted oi (yielded ops a.tmps)=false:=by rfl) (hS:S w:=by assumption):wpAnyH P md ops Q S (fuel + 1) listed a w:=
 wpAnyH_take hi hs hf hr hQ (Or.inr ⟨hw,rfl⟩) hS h
theorem gotA_eq {ws:List Nat} (h:ws.length ≤ 16384) (i:Nat):gotA ws i=ws.getD i 0:=by
 unfold gotA
 rw [if_pos h]
 split
 ·rfl
 ·rw [List.getD_eq_getElem?_getD,List.getElem?_eq_none (by omega)];rfl
theorem blankB_iff {ws:List Nat} (h:ws.length ≤ 16384) {a c:Nat}:blankB ws a c=true ↔ ∀ q,q < c → ws.getD (a + q) 0=0:=by
 unfold blankB
 rw [List.all_eq_true]
 constructor
 ·intro hh q hq
  have:=hh q (by simpa using hq)
  rw [gotA_eq h] at this
  simpa using this
 ·intro hh q hq
  rw [gotA_eq h]
  simpa using hh q (by simpa using hq)
theorem slot_rest {ws:List Nat} {d:Sd} {k:Nat} (h:ws.length ≤ 16384) {T:Nat} (hT:takN ws d k=T) :
  blankB ws (slA d k + T) (swd d - T)=true ↔ ∀ q,takN ws d k ≤ q → q < swd d → ws.getD (slA d k + q) 0=0:=by
 rw [blankB_iff h,hT]
 constructor
 ·intro hh q h1 h2
  have:=hh (q - T) (by omega)
  rwa [show slA d k + T + (q - T)=slA d k + q by omega] at this
 ·intro hh q hq
  have:=hh (T + q) (by omega) (by omega)
  rwa [← Nat.add_assoc] at this
def regOf (n:Nat):Code → Option (Array Oper × Bool)
 | .region id ops d=>if id=n then some (ops,d) else none
 | .seq a b=>match regOf n a with
  | some r=>some r
  | none=>regOf n b
 | .cond _ a b=>match regOf n a with
  | some r=>some r
  | none=>regOf n b
 | .block _ b=>regOf n b
 | .loop b=>regOf n b
 | .scope b=>regOf n b
 | _=>none
def OnlyN (K:Act → World → Prop):Exit → Act → World → Prop
 | .normal,a,w=>K a w
 | _,_,_=>False
theorem OnlyN.ends {K:Act → World → Prop} {e:Exit} {a:Act} {w:World} (h:OnlyN K e a w):e=.normal∧K a w:=by
 cases e <;> first | exact ⟨rfl,h⟩ | exact h.elim
set_option maxRecDepth 100000 in
set_option maxHeartbeats 4000000 in
theorem soundR12 (wz:World) (g0 g1 a T SW:Nat) {n f p z mn:Int} {A U V Aa Am:Option Addr} {ws aw mw:List Nat} {s:Bool} (M ca nu cu nv cv caa cam:Nat) (bl:Bool) (x0 x1 x4 x5 x7 x9 x10 x11 x12 x13 x14 x15 x16 x17 x18 x19 x20 x21 x22 x23 x24 x25 x26 x27 x28 x29 x30 x31 x32 x33 x34 x35 x36 x37 x38 x39 x40 x41 x42 x43 x44 x45 x46 x47 x48 x49 x50 x51 x52 x53 x54 x55 x56 x57 x58 x59 x60 x61 x62:Value) (ops:Array Oper) (dr:Bool) (hreg:(Tryz.f220.body.bind (regOf 12))=some (ops,dr)) (HSW:∀ (w:World),Calls Tryz.prog 192 #[.agg #[.int .i64 f,.int .i64 p,.int .i64 z,.int .i64 M,.slice Aa aw.length caa,.int .i64 mn,.slice Am mw.length cam,.bool s]] w fun e w'=>e=.returned (.int .u64 (SW:Nat))∧Below w.heap.size w w') (HH:Hb wz g0 A ws.length ca n U nu cu V nv cv) (S8:Sp8 wz g1 0 ⟨f,p,z,M,aw,mn,mw,s⟩ Aa caa Am cam) (hr:Row wz wz.heap.size A ws) (ha:a ≤ 20000) (hT:T ≤ SW) (hS:SW ≤ 64) (hbl:blankB ws (a + T) (SW - T)=bl) :
  Code.wp Tryz.prog (Code.region 12 ops dr) (OnlyN fun a' w'=>Below wz.heap.size wz w'∧∃ (z52 z53 z54 z55 z56 z57 z58 z59 z60:Value),a'={ tmps:=#[x0,x1,.pointer (some ⟨g0,0,none⟩),.pointer (some ⟨g1,0,none⟩),x4,x5,.int .u64 (a:Nat),x7,.int .u64 (T:Nat),x9,x10,x11,x12,x13,x14,x15,x16,x17,x18,x19,x20,x21,x22,x23,x24,x25,x26,x27,x28,x29,x30,x31,x32,x33,x34,x35,x36,x37,x38,x39,x40,x41,x42,x43,x44,x45,x46,x47,x48,x49,x50,x51,z52,z53,z54,z55,z56,z57,z58,z59,z60,.bool (!bl),x62],defers:=[] }) { tmps:=#[x0,x1,.pointer (some ⟨g0,0,none⟩),.pointer (some ⟨g1,0,none⟩),x4,x5,.int .u64 (a:Nat),x7,.int .u64 (T:Nat),x9,x10,x11,x12,x13,x14,x15,x16,x17,x18,x19,x20,x21,x22,x23,x24,x25,x26,x27,x28,x29,x30,x31,x32,x33,x34,x35,x36,x37,x38,x39,x40,x41,x42,x43,x44,x45,x46,x47,x48,x49,x50,x51,x52,x53,x54,x55,x56,x57,x58,x59,x60,x61,x62],defers:=[] } wz:=by
 have hreg0:(Tryz.f220.body.bind (regOf 12))=some (_,_):=rfl
 rw [hreg0] at hreg
 injection hreg with hreg
 injection hreg with hreg1 hreg2
 subst hreg1 hreg2
 clear hreg0
 have e0:IntKind.u64.wrap ((a:Int) + (T:Int))=((a + T:Nat):Int):=by rw [IntKind.wrap_u64];omega
 have e1:IntKind.u64.wrap ((SW:Int) - (T:Int))=((SW - T:Nat):Int):=by rw [IntKind.wrap_u64];omega
 have HADD:=Lib.hid e0
 have HSUB:=Lib.hid e1
 clear e0 e1
 have g0l:=HH.lt
 have g1l:=S8.lt
 obtain ⟨m0,m1,m2,m3⟩:=HH
 obtain ⟨c0,c1,c2,c3,c4,c5,c6,c7⟩:=S8
 simp only [Nat.zero_add] at c0 c1 c2 c3 c4 c5 c6 c7
 have HBL:=Lib.hid fun (w:World) hr=>zblank_any (w:=w) (n:=n) (A:=A) (U:=U) (V:=V) (ws:=ws) ca cu cv nu nv (a + T) (SW - T) hr (by omega) (by omega) bl hbl
 unfold hpv at HBL
 have HSW:=Lib.hid HSW
 clear hbl
 refine wp_region_held_drew (S:=(fun X:World=>X.cell? ⟨g0,0,none⟩=some (.slice A ws.length ca)∧X.cell? ⟨g0,1,none⟩=some (.int .i64 n)∧X.cell? ⟨g0,2,none⟩=some (.slice U nu cu)∧X.cell? ⟨g0,3,none⟩=some (.slice V nv cv)∧X.cell? ⟨g1,0,none⟩=some (.int .i64 f)∧X.cell? ⟨g1,1,none⟩=some (.int .i64 p)∧X.cell? ⟨g1,2,none⟩=some (.int .i64 z)∧X.cell? ⟨g1,3,none⟩=some (.int .i64 M)∧X.cell? ⟨g1,4,none⟩=some (.slice Aa aw.length caa)∧X.cell? ⟨g1,5,none⟩=some (.int .i64 mn)∧X.cell? ⟨g1,6,none⟩=some (.slice Am mw.length cam)∧X.cell? ⟨g1,7,none⟩=some (.bool s))) (by kernel_rfl) ?_ fun _=>?_
 ·exact kS
 refine tY 0 ?_
 try simp only [Act.put,qZ]
 refine tY 1 ?_
 try simp only [Act.put,qZ]
 refine tY 2 ?_
 try simp only [Act.put,qZ]
 refine tY 3 ?_
 try simp only [Act.put,qZ]
 refine tY 4 ?_
 try simp only [Act.put,qZ]
 refine tY 6 ?_
 try simp only [Act.put,qZ]
 refine tR 5 fun K hK=>?_
 try simp only [qZ]
 go_simp
 go_at_call 192
 refine (HSW.out _).mono ?_
 rintro e w8 ⟨rfl,hb_w8⟩
 have hs_w8:wz.heap.size ≤ w8.heap.size:=hb_w8.size
 have mw80:w8.cell? ⟨g0,0,none⟩=some (.slice A ws.length ca):=cX hb_w8
 have mw81:w8.cell? ⟨g0,1,none⟩=some (.int .i64 n):=cX hb_w8
 have mw82:w8.cell? ⟨g0,2,none⟩=some (.slice U nu cu):=cX hb_w8
 have mw83:w8.cell? ⟨g0,3,none⟩=some (.slice V nv cv):=cX hb_w8
 have mw84:w8.cell? ⟨g1,0,none⟩=some (.int .i64 f):=cX hb_w8
 have mw85:w8.cell? ⟨g1,1,none⟩=some (.int .i64 p):=cX hb_w8
 have mw86:w8.cell? ⟨g1,2,none⟩=some (.int .i64 z):=cX hb_w8
 have mw87:w8.cell? ⟨g1,3,none⟩=some (.int .i64 M):=cX hb_w8
 have mw88:w8.cell? ⟨g1,4,none⟩=some (.slice Aa aw.length caa):=cX hb_w8
 have mw89:w8.cell? ⟨g1,5,none⟩=some (.int .i64 mn):=cX hb_w8
 have mw810:w8.cell? ⟨g1,6,none⟩=some (.slice Am mw.length cam):=cX hb_w8
 have mw811:w8.cell? ⟨g1,7,none⟩=some (.bool s):=cX hb_w8
 try go_wp2_with fail
 refine hK.out _ _ ?_ fun _=>?_
 ·exact kS
 clear hK K
 try simp only [Act.put,qZ]
 refine tY 7 ?_
 try simp only [Act.put,qZ]
 refine tR 8 fun K hK=>?_
 try simp only [qZ]
 go_simp
 try simp only [HSUB.out,HADD.out]
 go_at_call 219
 refine (HBL.out _ (hr.later bX)).mono ?_
 rintro e w9 ⟨rfl,hb_w9⟩
 have hs_w9:w8.heap.size ≤ w9.heap.size:=hb_w9.size
 have mw90:w9.cell? ⟨g0,0,none⟩=some (.slice A ws.length ca):=cX hb_w9
 have mw91:w9.cell? ⟨g0,1,none⟩=some (.int .i64 n):=cX hb_w9
 have mw92:w9.cell? ⟨g0,2,none⟩=some (.slice U nu cu):=cX hb_w9
 have mw93:w9.cell? ⟨g0,3,none⟩=some (.slice V nv cv):=cX hb_w9
 have mw94:w9.cell? ⟨g1,0,none⟩=some (.int .i64 f):=cX hb_w9
 have mw95:w9.cell? ⟨g1,1,none⟩=some (.int .i64 p):=cX hb_w9
 have mw96:w9.cell? ⟨g1,2,none⟩=some (.int .i64 z):=cX hb_w9
 have mw97:w9.cell? ⟨g1,3,none⟩=some (.int .i64 M):=cX hb_w9
 have mw98:w9.cell? ⟨g1,4,none⟩=some (.slice Aa aw.length caa):=cX hb_w9
 have mw99:w9.cell? ⟨g1,5,none⟩=some (.int .i64 mn):=cX hb_w9
 have mw910:w9.cell? ⟨g1,6,none⟩=some (.slice Am mw.length cam):=cX hb_w9
 have mw911:w9.cell? ⟨g1,7,none⟩=some (.bool s):=cX hb_w9
 try go_wp2_with fail
 refine hK.out _ _ ?_ fun _=>?_
 ·exact kS
 clear hK K
 try simp only [Act.put,qZ]
 refine tY 9 ?_
 try simp only [Act.put,qZ]
 refine wpAnyH_done (by kernel_rfl) ?_ _
 go_simp
 exact ⟨bX,_,_,_,_,_,_,_,_,_,rfl⟩
section
variable {w:World} {n:Int} {A U V Aa Am:Option Addr} {ws:List Nat} {d:Sd} (ca nu cu nv cv caa cam:Nat)
set_option maxHeartbeats 4000000 in
theorem zsound_any (hz:Sizes w) (hr:Row w w.heap.size A ws) (hAa:Row w w.heap.size Aa d.aw) (hAm:Row w w.heap.size Am d.mw) (hl:ws.length ≤ 16384) (ok:Ok1 d) (hin:((d.f + d.p) * 16:Int) ≤ ws.length) (b:Bool) (hb:b=true ↔ SoundS ws d) :
  Calls Tryz.prog 220 #[hpv A ws.length ca n U nu cu V nv cv,spv d Aa caa Am cam] w fun e w'=>e=.returned (.bool b)∧Below w.heap.size w w':=by
 have HS:=Lib.hid hb
 have HL:=Lib.hid hl
 have hws:=hr.words
 have HOK:=Lib.hid ok
 have HA:=Lib.hid ok.a
 obtain ⟨N1,N8,HN⟩:=ok.slK
 have hp:=ok.sized.slots
 have hpl:=ok.placed
 unfold Placed at hpl
 obtain ⟨pl0,pl1⟩:=hpl
 have han:=ok.an
 obtain ⟨SW,hSW⟩:∃ SW,Hid (swd d=SW):=⟨_,rfl⟩
 obtain ⟨_,sw0,sw1,_⟩:=ok.swd_eq
 rw [hSW.out] at sw0 sw1
 obtain ⟨M,hM⟩:∃ M,Hid (slN d=M):=⟨_,rfl⟩
 rw [hM.out] at N1 N8 HN
 rw [← HN] at han
 clear hb ok HN
 have HSW0:=Lib.hid fun (w:World)=>zslotw_any (w:=w) d Aa caa Am cam (by omega) (by omega)
 rw [hSW.out] at HSW0
 have HFI0:=Lib.hid fun (w:World) hs n m h0 h1 b hb=>zfits_any (w:=w) hs n m h0 h1 d Aa caa Am cam b hb
 have HAD0:=Lib.hid fun (w:World) hA hM k r y hy=>sAddr_any (w:=w) (d:=d) (A:=Aa) (M:=Am) caa cam hA hM k r y hy
 have HGE0:=Lib.hid fun (w:World) hA i h0 h1=>get_in (w:=w) (n:=d.an) (A:=Aa) (ws:=d.aw) caa i hA HA.out h0 h1
 have HWO0:=Lib.hid fun (w:World) hr i h1=>zword_any (w:=w) (n:=n) (A:=A) (U:=U) (V:=V) (ws:=ws) ca cu cv nu nv i hr h1
 have HBL:=Lib.hid fun (w:World) hr a c ha hc b hb=>zblank_any (w:=w) (n:=n) (A:=A) (U:=U) (V:=V) (ws:=ws) ca cu cv nu nv a c hr ha hc b hb
 have HRO:=Lib.hid fun (k:Nat) (hk:k < M)=>HOK.out.slA_in (k:=k) (by rw [hM.out];exact hk)
 have HEQ:=Lib.hid fun (k:Nat) (hk:k < M)=>(HOK.out.slA_eq (k:=k) (by rw [hM.out];exact hk)).1
 have HAE:=Lib.hid fun (k:Nat) (hk:k < M)=>(show AddrE d (k:Int) ((slA d k:Nat):Int) 0 from .inl ⟨HOK.out,by omega,by have:=HOK.out.slK.2.2;rw [hM.out] at this;omega,HEQ.out k hk,rfl⟩)
 have HST:Hid (∀ k,SlotOk ws d k → (∀ j,j < k → SlotOk ws d j) → ∀ j,j < k + 1 → SlotOk ws d j):=Lib.hid fun k h1 h2 j hj=>by
  by_cases e:j=k
  ·rw [e];exact h1
  ·exact h2 j (by omega)
 obtain ⟨f,p,z,an,aw,mn,mw,s⟩:=d
 simp only at *
 unfold spv at HSW0 HFI0 HAD0 ⊢
 simp only at HSW0 HFI0 HAD0 ⊢
 unfold hpv at HWO0 HBL ⊢
 obtain rfl:an=(M:Int):=han
 go_enter Tryz.func220,Tryz.ntmps220
 go_wp2_with fail
 go_loopw [16] (fun ii wr=>∃ k:Nat,ii=.int .i64 (k:Nat)∧k ≤ M∧Hid (∀ j,j < k → SlotOk ws ⟨f,p,z,M,aw,mn,mw,s⟩ j)∧Hid (Hb wr w.heap.size A ws.length ca n U nu cu V nv cv)∧Hid (Sp8 wr (w.heap.size + 1) 0 ⟨f,p,z,M,aw,mn,mw,s⟩ Aa caa Am cam)∧w.heap.size + 2 ≤ wr.heap.size∧Below w.heap.size w wr) (fun ii _=>M - (intOf ii).toNat)
 case atStart=>exact ⟨0,rfl,Nat.zero_le _,Lib.hid (fun j hj=>by omega),Lib.hid ⟨by simp [go_sem],by simp [go_sem],by simp [go_sem],by simp [go_sem]⟩,Lib.hid ⟨by simp [go_sem],by simp [go_sem],by simp [go_sem],by simp [go_sem],by simp [go_sem],by simp [go_sem],by simp [go_sem],by simp [go_sem]⟩,lX,bX⟩
 case round=>
  obtain ⟨k,rfl,hk,hT0,HH,S8,hsz,hb_wr⟩:=hrel
  have hsr:=hb_wr.size
  by_cases hlt:k < M
  ·obtain ⟨a0,a1⟩:=HRO.out k hlt
   have HAEk:=Lib.hid (HAE.out k hlt)
   have HGE:=Lib.hid fun (w:World) hA=>HGE0.out w hA (k:Int) (by omega) (by omega)
   have hSTk:=Lib.hid (HST.out k)
   have hrest:=Lib.hid fun T hT=>slot_rest (ws:=ws) (d:=⟨f,p,z,M,aw,mn,mw,s⟩) (k:=k) HL.out (T:=T) hT
   obtain ⟨a,ha⟩:∃ a,Hid (slA ⟨f,p,z,M,aw,mn,mw,s⟩ k=a):=⟨_,rfl⟩
   rw [ha.out] at hrest
   have hrest:Hid (∀ T,takN ws ⟨f,p,z,M,aw,mn,mw,s⟩ k=T → (blankB ws (a + T) (SW - T)=true ↔ ∀ q,takN ws ⟨f,p,z,M,aw,mn,mw,s⟩ k ≤ q → q < swd ⟨f,p,z,M,aw,mn,mw,s⟩ → ws.getD (a + q) 0=0)):=Lib.hid (fun T hT=>by rw [← hSW.out];exact hrest.out T hT)
   rw [ha.out] at a0 a1 HAEk
   rw [hSW.out] at a1
   have HAD:=Lib.hid fun (w:World) hA hM=>HAD0.out w hA hM (k:Int) (a:Nat) 0 HAEk.out
   have HWO:=Lib.hid fun (w:World) hr=>HWO0.out w hr a (by unfold W64;omega)
   have HSW:=HSW0
   obtain ⟨x,hx⟩:∃ x,Hid (ws.getD a 0=x):=⟨_,rfl⟩
   have hxl:x < W64:=by rw [← hx.out];exact hws.at_ _
   have hg:=gotA_eq HL.out a
   rw [hx.out] at hg
   rw [hg] at HWO
   have HUN:=Lib.hid fun (w:World)=>hunpack_any (w:=w) x hxl
   -- what the slot needs
   have HNO:Hid ((tb aw k=true∧¬ Un x ∨ (tb aw k=true∧fitsB (unN x) ⟨f,p,z,M,aw,mn,mw,s⟩=false ∨ ∃ T,takN ws ⟨f,p,z,M,aw,mn,mw,s⟩ k=T∧blankB ws (a + T) (SW - T)=false)) → b=false):=Lib.hid (by
    intro hor
    rcases b with _ | _
    ·rfl
    ·exfalso
     obtain ⟨h1,h2⟩:=HS.out.1 rfl k (by rw [hM.out];exact hlt)
     rw [ha.out,hx.out] at h1
     rcases hor with ⟨e1,e2⟩ | ⟨e1,e2⟩ | ⟨T,e1,e2⟩
     ·exact e2 (h1 e1).1
     ·rw [(h1 e1).2] at e2;cases e2
     ·have:=(hrest.out T e1).2 (by intro q h3 h4;have:=h2 q h3 h4;rwa [ha.out] at this)
      rw [this] at e2;cases e2)
   clear hg
   have HAw:Hid (∀ T,takN ws ⟨f,p,z,M,aw,mn,mw,s⟩ k=T ↔ (if tb aw k then (unN x).toNat + 1 else 0)=T):=Lib.hid (fun T=>by unfold takN;simp only;rw [ha.out,hx.out])
   obtain ⟨m0,m1,m2,m3⟩:=id HH.out
   obtain ⟨c0,c1,c2,c3,c4,c5,c6,c7⟩:=id S8.out
   go_wp2_with fail
   go_at_call 159
   refine (HAD.out _ (hAa.later bX) (hAm.later bX)).mono ?_
   rintro e w1 ⟨rfl,hb_w1⟩
   obtain ⟨hc_w1,hf_w1⟩:=bcell hb_w1;have hs_w1:=hb_w1.size;(try simp only [zZ] at hs_w1)
   clear hc_w1 hf_w1
   clear m0 m1 m2 m3 c0 c1 c2 c3 c4 c5 c6 c7
   have p0_w1:w.heap.size < w1.heap.size:=by omega
   have p1_w1:w.heap.size + 1 < w1.heap.size:=by omega
   have k_w1:Below wr.heap.size wr w1:=bX
   obtain ⟨m0,m1,m2,m3⟩:=id (HH.out.later k_w1)
   obtain ⟨c0,c1,c2,c3,c4,c5,c6,c7⟩:=id (S8.out.later k_w1)
   go_wp2_with fail
   go_at_call 241
   refine (HGE.out _ (hAa.later bX)).mono ?_
   rintro e w2 ⟨rfl,hb_w2⟩
   obtain ⟨hc_w2,hf_w2⟩:=bcell hb_w2;have hs_w2:=hb_w2.size;(try simp only [zZ] at hs_w2)
   clear hc_w2 hf_w2
   clear m0 m1 m2 m3 c0 c1 c2 c3 c4 c5 c6 c7
   have p0_w2:w.heap.size < w2.heap.size:=by omega
   have p1_w2:w.heap.size + 1 < w2.heap.size:=by omega
   have k_w2:Below wr.heap.size wr w2:=bX
   obtain ⟨m0,m1,m2,m3⟩:=id (HH.out.later k_w2)
   obtain ⟨c0,c1,c2,c3,c4,c5,c6,c7⟩:=id (S8.out.later k_w2)
   rcases hal:tb aw k with _ | _
   ·have hT:takN ws ⟨f,p,z,M,aw,mn,mw,s⟩ k=0:=(HAw.out 0).2 (by rw [hal];rfl)
    have HYES:Hid (∀ T,takN ws ⟨f,p,z,M,aw,mn,mw,s⟩ k=T → blankB ws (a + T) (SW - T)=true → Hid (∀ j,j < k + 1 → SlotOk ws ⟨f,p,z,M,aw,mn,mw,s⟩ j)):=Lib.hid (fun T e1 e2=>Lib.hid (hSTk.out ⟨fun h=>(by simp only at h;rw [hal] at h;cases h),fun q h3 h4=>(by rw [ha.out];exact (hrest.out T e1).1 e2 q h3 h4)⟩ hT0.out))
    have h1:tb aw ((k:Int)).toNat=false:=by rw [Int.toNat_natCast];exact hal
    clear hal HAw
    try simp only [h1]
    rcases hbl:blankB ws (a + 0) (SW - 0) with _ | _
    ·obtain rfl:b=false:=HNO.out (Or.inr (Or.inr ⟨0,hT,hbl⟩))
     have hbl2:=Lib.hid hbl
     clear hbl hT
     go_wp2_with fail
     refine wp_mono (soundR12 w2 w.heap.size (w.heap.size + 1) a 0 SW (n:=n) (f:=f) (p:=p) (z:=z) (mn:=mn) (A:=A) (U:=U) (V:=V) (Aa:=Aa) (Am:=Am) (ws:=ws) (aw:=aw) (mw:=mw) (s:=s) M ca nu cu nv cv caa cam false _ _ _ _ _ _ _ _ _ _ _ _ _ _ _ _ _ _ _ _ _ _ _ _ _ _ _ _ _ _ _ _ _ _ _ _ _ _ _ _ _ _ _ _ _ _ _ _ _ _ _ _ _ _ _ _ _ _ _ _ _ rfl (fun w=>HSW.out w) ⟨m0,m1,m2,m3⟩ ⟨c0,c1,c2,c3,c4,c5,c6,c7⟩ (hr.later bX) (by omega) (by omega) (by omega) hbl2.out) ?_
     intro e a' w9 hO
     obtain ⟨rfl,hb_w9,z0,z1,z2,z3,z4,z5,z6,z7,z8,rfl⟩:=hO.ends
     have hs_w9:=hb_w9.size
     go_wp2
     go_ret
     exact ⟨rfl,bX⟩
    ·have hS1:=HYES.out 0 hT hbl
     have hbl2:=Lib.hid hbl
     clear hbl hT
     go_wp2_with fail
     refine wp_mono (soundR12 w2 w.heap.size (w.heap.size + 1) a 0 SW (n:=n) (f:=f) (p:=p) (z:=z) (mn:=mn) (A:=A) (U:=U) (V:=V) (Aa:=Aa) (Am:=Am) (ws:=ws) (aw:=aw) (mw:=mw) (s:=s) M ca nu cu nv cv caa cam true _ _ _ _ _ _ _ _ _ _ _ _ _ _ _ _ _ _ _ _ _ _ _ _ _ _ _ _ _ _ _ _ _ _ _ _ _ _ _ _ _ _ _ _ _ _ _ _ _ _ _ _ _ _ _ _ _ _ _ _ _ rfl (fun w=>HSW.out w) ⟨m0,m1,m2,m3⟩ ⟨c0,c1,c2,c3,c4,c5,c6,c7⟩ (hr.later bX) (by omega) (by omega) (by omega) hbl2.out) ?_
     intro e a' w9 hO
     obtain ⟨rfl,hb_w9,z0,z1,z2,z3,z4,z5,z6,z7,z8,rfl⟩:=hO.ends
     have hs_w9:=hb_w9.size
     go_wp2
     have kE:Below wr.heap.size wr w9:=bX
     go_roundw
     case rel=>exact ⟨k + 1,by go_num,by omega,hS1,Lib.hid (HH.out.later kE),Lib.hid (S8.out.later kE),lX,bX⟩
     case measure=>simp [intOf];omega
   ·have h1:tb aw ((k:Int)).toNat=true:=by rw [Int.toNat_natCast];exact hal
    try simp only [h1]
    by_cases hun:Un x
    ·have hY0:unY x=0:=by unfold unY;rw [if_pos hun]
     obtain ⟨n0,n48⟩:=unN_bounds x
     obtain ⟨T,hTx⟩:∃ T:Nat,unN x=(T:Int):=⟨(unN x).toNat,by omega⟩
     have HFI:=Lib.hid fun (w:World) hs b hb=>HFI0.out w hs (T:Int) (unM x) (by omega) (by omega) b hb
     rw [hY0,hTx] at HUN
     rw [hTx] at n48 HNO HAw
     have hT:takN ws ⟨f,p,z,M,aw,mn,mw,s⟩ k=T + 1:=(HAw.out _).2 (by rw [hal];simp)
     generalize unM x=mm at *
     have hroom:=fun h=>szn_room (n:=(T:Int)) (d:=⟨f,p,z,M,aw,mn,mw,s⟩) (by omega) (by omega) h
     rw [hSW.out] at hroom
     have HYES0:Hid (fitsB (T:Int) ⟨f,p,z,M,aw,mn,mw,s⟩=true → ∀ T',takN ws ⟨f,p,z,M,aw,mn,mw,s⟩ k=T' → blankB ws (a + T') (SW - T')=true → Hid (∀ j,j < k + 1 → SlotOk ws ⟨f,p,z,M,aw,mn,mw,s⟩ j)):=Lib.hid (fun hf T' e1 e2=>Lib.hid (hSTk.out ⟨fun _=>(by rw [ha.out,hx.out,hTx];exact ⟨hun,hf⟩),fun q h3 h4=>(by rw [ha.out];exact (hrest.out T' e1).1 e2 q h3 h4)⟩ hT0.out))
     have HAL:=Lib.hid hal
     clear hal HAw hTx hY0
     go_wp2_with fail
     go_at_call 102
     refine (HWO.out _ (hr.later bX)).mono ?_
     rintro e w3 ⟨rfl,hb_w3⟩
     obtain ⟨hc_w3,hf_w3⟩:=bcell hb_w3;have hs_w3:=hb_w3.size;(try simp only [zZ] at hs_w3)
     clear hc_w3 hf_w3
     clear m0 m1 m2 m3 c0 c1 c2 c3 c4 c5 c6 c7
     have p0_w3:w.heap.size < w3.heap.size:=by omega
     have p1_w3:w.heap.size + 1 < w3.heap.size:=by omega
     have k_w3:Below wr.heap.size wr w3:=bX
     obtain ⟨m0,m1,m2,m3⟩:=id (HH.out.later k_w3)
     obtain ⟨c0,c1,c2,c3,c4,c5,c6,c7⟩:=id (S8.out.later k_w3)
     go_wp2_with fail
     go_at_call 253
     refine (HUN.out _).mono ?_
     rintro e w4 ⟨rfl,hb_w4⟩
     obtain ⟨hc_w4,hf_w4⟩:=bcell hb_w4;have hs_w4:=hb_w4.size;(try simp only [zZ] at hs_w4)
     clear hc_w4 hf_w4
     clear m0 m1 m2 m3 c0 c1 c2 c3 c4 c5 c6 c7
     have p0_w4:w.heap.size < w4.heap.size:=by omega
     have p1_w4:w.heap.size + 1 < w4.heap.size:=by omega
     have k_w4:Below wr.heap.size wr w4:=bX
     obtain ⟨m0,m1,m2,m3⟩:=id (HH.out.later k_w4)
     obtain ⟨c0,c1,c2,c3,c4,c5,c6,c7⟩:=id (S8.out.later k_w4)
     rcases hfb:fitsB (T:Int) ⟨f,p,z,M,aw,mn,mw,s⟩ with _ | _
     ·obtain rfl:b=false:=HNO.out (Or.inr (Or.inl ⟨HAL.out,hfb⟩))
      have HFB:=Lib.hid hfb
      clear hfb hroom hT
      go_wp2_with fail
      go_at_call 254
      refine (HFI.out _ (hz.later bX) false HFB.out).mono ?_
      rintro e w5 ⟨rfl,hb_w5⟩
      obtain ⟨hc_w5,hf_w5⟩:=bcell hb_w5;have hs_w5:=hb_w5.size;(try simp only [zZ] at hs_w5)
      go_wp2
      go_ret
      exact ⟨rfl,bX⟩
     ·have hrm:=hroom hfb
      rw [Int.toNat_natCast] at hrm
      have HYES:=Lib.hid (HYES0.out hfb)
      have HFB:=Lib.hid hfb
      clear hfb hroom HYES0
      have hw1:IntKind.u64.wrap (T:Int)=(T:Int):=by rw [IntKind.wrap_u64];omega
      have hw2:IntKind.u64.wrap ((T:Int) + 1)=((T + 1:Nat):Int):=by rw [IntKind.wrap_u64];omega
      go_wp2_with fail
      go_at_call 254
      refine (HFI.out _ (hz.later bX) true HFB.out).mono ?_
      rintro e w5 ⟨rfl,hb_w5⟩
      obtain ⟨hc_w5,hf_w5⟩:=bcell hb_w5;have hs_w5:=hb_w5.size;(try simp only [zZ] at hs_w5)
      have q0:w5.cell? ⟨w4.heap.size,0,none⟩=some (.int .i64 (T:Nat)):=(hc_w5 _ _ lX).trans (by simp [go_sem])
      clear hc_w5 hf_w5
      clear m0 m1 m2 m3 c0 c1 c2 c3 c4 c5 c6 c7
      have p0_w5:w.heap.size < w5.heap.size:=by omega
      have p1_w5:w.heap.size + 1 < w5.heap.size:=by omega
      have k_w5:Below wr.heap.size wr w5:=bX
      obtain ⟨m0,m1,m2,m3⟩:=id (HH.out.later k_w5)
      obtain ⟨c0,c1,c2,c3,c4,c5,c6,c7⟩:=id (S8.out.later k_w5)
      rcases hbl:blankB ws (a + (T + 1)) (SW - (T + 1)) with _ | _
      ·obtain rfl:b=false:=HNO.out (Or.inr (Or.inr ⟨(T + 1),hT,hbl⟩))
       have hbl2:=Lib.hid hbl
       clear hbl hT
       go_wp2_with fail
       refine wp_mono (soundR12 w5 w.heap.size (w.heap.size + 1) a (T + 1) SW (n:=n) (f:=f) (p:=p) (z:=z) (mn:=mn) (A:=A) (U:=U) (V:=V) (Aa:=Aa) (Am:=Am) (ws:=ws) (aw:=aw) (mw:=mw) (s:=s) M ca nu cu nv cv caa cam false _ _ _ _ _ _ _ _ _ _ _ _ _ _ _ _ _ _ _ _ _ _ _ _ _ _ _ _ _ _ _ _ _ _ _ _ _ _ _ _ _ _ _ _ _ _ _ _ _ _ _ _ _ _ _ _ _ _ _ _ _ rfl (fun w=>HSW.out w) ⟨m0,m1,m2,m3⟩ ⟨c0,c1,c2,c3,c4,c5,c6,c7⟩ (hr.later bX) (by omega) (by omega) (by omega) hbl2.out) ?_
       intro e a' w9 hO
       obtain ⟨rfl,hb_w9,z0,z1,z2,z3,z4,z5,z6,z7,z8,rfl⟩:=hO.ends
       have hs_w9:=hb_w9.size
       go_wp2
       go_ret
       exact ⟨rfl,bX⟩
      ·have hS1:=HYES.out (T + 1) hT hbl
       have hbl2:=Lib.hid hbl
       clear hbl hT
       go_wp2_with fail
       refine wp_mono (soundR12 w5 w.heap.size (w.heap.size + 1) a (T + 1) SW (n:=n) (f:=f) (p:=p) (z:=z) (mn:=mn) (A:=A) (U:=U) (V:=V) (Aa:=Aa) (Am:=Am) (ws:=ws) (aw:=aw) (mw:=mw) (s:=s) M ca nu cu nv cv caa cam true _ _ _ _ _ _ _ _ _ _ _ _ _ _ _ _ _ _ _ _ _ _ _ _ _ _ _ _ _ _ _ _ _ _ _ _ _ _ _ _ _ _ _ _ _ _ _ _ _ _ _ _ _ _ _ _ _ _ _ _ _ rfl (fun w=>HSW.out w) ⟨m0,m1,m2,m3⟩ ⟨c0,c1,c2,c3,c4,c5,c6,c7⟩ (hr.later bX) (by omega) (by omega) (by omega) hbl2.out) ?_
       intro e a' w9 hO
       obtain ⟨rfl,hb_w9,z0,z1,z2,z3,z4,z5,z6,z7,z8,rfl⟩:=hO.ends
       have hs_w9:=hb_w9.size
       go_wp2
       have kE:Below wr.heap.size wr w9:=bX
       go_roundw
       case rel=>exact ⟨k + 1,by go_num,by omega,hS1,Lib.hid (HH.out.later kE),Lib.hid (S8.out.later kE),lX,bX⟩
       case measure=>simp [intOf];omega
    ·obtain rfl:b=false:=HNO.out (Or.inl ⟨hal,hun⟩)
     have hY0:unY x=2:=by unfold unY;rw [if_neg hun]
     have hN0:unN x=0:=by unfold unN;rw [if_neg hun]
     have hM0:unM x=0:=by unfold unM;rw [if_neg hun]
     rw [hY0,hN0,hM0] at HUN
     clear hal HAw hun hY0 hN0 hM0
     go_wp2_with fail
     go_at_call 102
     refine (HWO.out _ (hr.later bX)).mono ?_
     rintro e w3 ⟨rfl,hb_w3⟩
     obtain ⟨hc_w3,hf_w3⟩:=bcell hb_w3;have hs_w3:=hb_w3.size;(try simp only [zZ] at hs_w3)
     clear hc_w3 hf_w3
     clear m0 m1 m2 m3 c0 c1 c2 c3 c4 c5 c6 c7
     have p0_w3:w.heap.size < w3.heap.size:=by omega
     have p1_w3:w.heap.size + 1 < w3.heap.size:=by omega
     have k_w3:Below wr.heap.size wr w3:=bX
     obtain ⟨m0,m1,m2,m3⟩:=id (HH.out.later k_w3)
     obtain ⟨c0,c1,c2,c3,c4,c5,c6,c7⟩:=id (S8.out.later k_w3)
     go_wp2_with fail
     go_at_call 253
     refine (HUN.out _).mono ?_
     rintro e w4 ⟨rfl,hb_w4⟩
     obtain ⟨hc_w4,hf_w4⟩:=bcell hb_w4;have hs_w4:=hb_w4.size;(try simp only [zZ] at hs_w4)
     clear hc_w4 hf_w4
     clear m0 m1 m2 m3 c0 c1 c2 c3 c4 c5 c6 c7
     have p0_w4:w.heap.size < w4.heap.size:=by omega
     have p1_w4:w.heap.size + 1 < w4.heap.size:=by omega
     have k_w4:Below wr.heap.size wr w4:=bX
     obtain ⟨m0,m1,m2,m3⟩:=id (HH.out.later k_w4)
     obtain ⟨c0,c1,c2,c3,c4,c5,c6,c7⟩:=id (S8.out.later k_w4)
     go_wp2
     go_ret
     exact ⟨rfl,bX⟩
  ·obtain rfl:k=M:=by omega
   obtain rfl:b=true:=HS.out.2 (fun j hj=>hT0.out j (by rw [hM.out] at hj;exact hj))
   obtain ⟨m0,m1,m2,m3⟩:=id HH.out
   obtain ⟨c0,c1,c2,c3,c4,c5,c6,c7⟩:=id S8.out
   go_wp2
   go_ret
   exact ⟨rfl,bX⟩
end
theorem usedB_one {us:List Nat} {n:Int} {k:Nat} (hk:(k:Int) < n):usedB us n (k:Int) 1=tb us k:=by
 rw [Bool.eq_iff_iff,usedB_iff]
 constructor
 ·intro h
  have:=getB_iff.1 (h 0 (by omega))
  simpa using this.2.2
 ·intro h j hj
  obtain rfl:j=0:=by omega
  rw [getB_iff]
  exact ⟨by omega,by omega,by simpa using h⟩
def FreeAt (ws us:List Nat) (k:Nat):Prop:=(k=0 ∨ tb us k=false) → ∀ q,q < 16 → ws.getD (k * 16 + q) 0=0
section
variable {w:World} {n:Int} {A U V:Option Addr} {ws us:List Nat} {l:List Sd} (ca cu cv:Nat)
set_option maxHeartbeats 2000000 in
theorem zfilled_any (hz:Sizes w) (hr:Row w w.heap.size A ws) (hu:Row w w.heap.size U us) (hv:SRow w w.heap.size V l) (hF:Framed ⟨ws,n,us,l⟩) (hO:Owned ⟨ws,n,us,l⟩) (b:Bool) (hb:b=true ↔ Filled ⟨ws,n,us,l⟩) :
  Calls Tryz.prog 153 #[hpv A ws.length ca n U us.length cu V l.length cv] w fun e w'=>e=.returned (.bool b)∧Below w.heap.size w w':=by
 have HB:=Lib.hid hb
 have HR:=Lib.hid hF.pages
 have HF:=Lib.hid hF
 have HL:=Lib.hid hF.spans
 have HO:=Lib.hid hO.in_
 have HW:=Lib.hid hF.words
 have hlong:=hF.long
 have hn:=hF.some_
 have hn2:=hF.pages.2.1
 have hl256:=hF.spans.1
 simp only at hn hn2 hl256 hlong
 obtain ⟨N,rfl⟩:∃ N:Nat,n=(N:Int):=⟨n.toNat,by omega⟩
 have HU:=Lib.hid fun (w:World) hu f c f0 f1 c1 b hb=>zused_any (w:=w) (n:=(N:Int)) (U:=U) (us:=us) (A:=A) (V:=V) (ca:=ca) (cu:=cu) (cv:=cv) (na:=ws.length) (nv:=l.length) f c hu HR.out f0 f1 c1 b hb
 have HBL:=Lib.hid fun (w:World) hr a c ha hc b hb=>zblank_any (w:=w) (n:=(N:Int)) (A:=A) (U:=U) (V:=V) (ws:=ws) ca cu cv us.length l.length a c hr ha hc b hb
 have HSO:=Lib.hid fun (w:World) hz hr Aa caa Am cam j (hj:j < l.length) hAa hAm b hb=>zsound_any (w:=w) (n:=(N:Int)) (A:=A) (U:=U) (V:=V) (Aa:=Aa) (Am:=Am) (ws:=ws) (d:=nth l j) ca us.length cu l.length cv caa cam hz hr hAa hAm HW.out (HL.out.at_ hj) (by have:=HO.out j hj;simp only at this;omega) b hb
 clear hb hF hO hlong
 unfold hpv at HU HBL HSO ⊢
 go_enter Tryz.func153,Tryz.ntmps153
 go_wp2_with fail
 go_loopw [11] (fun ii wr=>∃ k:Nat,ii=.int .i64 (k:Nat)∧k ≤ N∧Hid (∀ j,j < k → FreeAt ws us j) ∧
  (wr.cell? ⟨w.heap.size,0,none⟩=some (.slice A ws.length ca)∧wr.cell? ⟨w.heap.size,1,none⟩=some (.int .i64 N)∧wr.cell? ⟨w.heap.size,2,none⟩=some (.slice U us.length cu)∧wr.cell? ⟨w.heap.size,3,none⟩=some (.slice V l.length cv))∧w.heap.size + 1 ≤ wr.heap.size∧Below w.heap.size w wr) (fun ii _=>N - (intOf ii).toNat)
 case atStart=>exact ⟨0,rfl,Nat.zero_le _,Lib.hid (fun j hj=>by omega),⟨by simp,by simp,by simp,by simp⟩,lX,bX⟩
 case round=>
  obtain ⟨k,rfl,hk,hT,⟨m0,m1,m2,m3⟩,hsz,hb_wr⟩:=hrel
  have hsr:=hb_wr.size
  have p0l:w.heap.size < wr.heap.size:=by omega
  by_cases hlt:k < N
  ·have HT1:FreeAt ws us k → Hid (∀ j,j < k + 1 → FreeAt ws us j):=fun h=>Lib.hid (fun j hj=>by
    by_cases e:j=k
    ·rw [e];exact h
    ·exact hT.out j (by omega))
   have HN:b=true → FreeAt ws us k:=fun hb=>(HB.out.1 hb).free k (by show (k:Int) < (N:Int);omega)
   have hbi:=blankB_iff (ws:=ws) HW.out (a:=k * 16) (c:=16)
   have hu1:=usedB_one (us:=us) (n:=(N:Int)) (k:=k) (by omega)
   have hw1:IntKind.u64.wrap (k:Int)=(k:Int):=by rw [IntKind.wrap_u64];omega
   obtain ⟨a,ha⟩:∃ a:Nat,Hid (k * 16=a):=⟨_,rfl⟩
   have hab:a ≤ 100000:=by rw [← ha.out];omega
   have hw2:IntKind.u64.wrap ((k:Int) * 16)=(a:Int):=by rw [IntKind.wrap_u64,← ha.out];omega
   rcases hbl:blankB ws (k * 16) 16 with _ | _
   ·have HBK:=Lib.hid fun (w:World) hr=>HBL.out w hr a 16 (by omega) (by omega) false (by rw [← ha.out];exact hbl)
    rcases hus:tb us k with _ | _
    ·-- a free page with a word
     obtain rfl:b=false:=by
      rcases b with _ | _
      ·rfl
      ·have:=hbi.2 (HN rfl (.inr hus));rw [hbl] at this;cases this
     have HUK:=Lib.hid fun (w:World) hu=>HU.out w hu (k:Int) 1 (by omega) (by omega) (by omega) false (by rw [hu1];exact hus)
     clear HT1 HN hbi hu1 hbl hus
     by_cases hk0:k=0
     ·have d1:((k:Int) == 0)=true:=by simp [hk0]
      clear hk0
      go_wp2_with fail
      go_at_call 219
      refine (HBK.out _ ((hr.later hb_wr).later bX)).mono ?_
      rintro e w2 ⟨rfl,hb_w2⟩
      obtain ⟨hc_w2,hf_w2⟩:=bcell hb_w2;have hs_w2:=hb_w2.size;(try simp only [zZ] at hs_w2)
      clear hc_w2 hf_w2
      go_wp2
      go_ret
      exact ⟨rfl,bX⟩
     ·have d1:((k:Int) == 0)=false:=by simp;omega
      clear hk0
      go_wp2_with fail
      go_at_call 218
      refine (HUK.out _ ((hu.later hb_wr).later bX)).mono ?_
      rintro e w1 ⟨rfl,hb_w1⟩
      obtain ⟨hc_w1,hf_w1⟩:=bcell hb_w1;have hs_w1:=hb_w1.size;(try simp only [zZ] at hs_w1)
      have n0:=(hc_w1 w.heap.size 0 lX).trans m0
      have n1:=(hc_w1 w.heap.size 1 lX).trans m1
      have n2:=(hc_w1 w.heap.size 2 lX).trans m2
      have n3:=(hc_w1 w.heap.size 3 lX).trans m3
      clear hc_w1 hf_w1
      go_wp2_with fail
      go_at_call 219
      refine (HBK.out _ ((hr.later hb_wr).later bX)).mono ?_
      rintro e w2 ⟨rfl,hb_w2⟩
      obtain ⟨hc_w2,hf_w2⟩:=bcell hb_w2;have hs_w2:=hb_w2.size;(try simp only [zZ] at hs_w2)
      clear hc_w2 hf_w2
      go_wp2
      go_ret
      exact ⟨rfl,bX⟩
    ·by_cases hk0:k=0
     ·obtain rfl:b=false:=by
       rcases b with _ | _
       ·rfl
       ·have:=hbi.2 (HN rfl (.inl hk0));rw [hbl] at this;cases this
      clear HT1 HN hbi hu1 hbl hus
      have d1:((k:Int) == 0)=true:=by simp [hk0]
      clear hk0
      go_wp2_with fail
      go_at_call 219
      refine (HBK.out _ ((hr.later hb_wr).later bX)).mono ?_
      rintro e w2 ⟨rfl,hb_w2⟩
      obtain ⟨hc_w2,hf_w2⟩:=bcell hb_w2;have hs_w2:=hb_w2.size;(try simp only [zZ] at hs_w2)
      clear hc_w2 hf_w2
      go_wp2
      go_ret
      exact ⟨rfl,bX⟩
     ·have hT2:=HT1 (fun h=>by rcases h with h | h;exact absurd h hk0;rw [hus] at h;cases h)
      have d1:((k:Int) == 0)=false:=by simp;omega
      have HUK:=Lib.hid fun (w:World) hu=>HU.out w hu (k:Int) 1 (by omega) (by omega) (by omega) true (by rw [hu1];exact hus)
      clear HT1 HN hbi hu1 hbl hus hk0
      go_wp2_with fail
      go_at_call 218
      refine (HUK.out _ ((hu.later hb_wr).later bX)).mono ?_
      rintro e w1 ⟨rfl,hb_w1⟩
      obtain ⟨hc_w1,hf_w1⟩:=bcell hb_w1;have hs_w1:=hb_w1.size;(try simp only [zZ] at hs_w1)
      have n0:=(hc_w1 w.heap.size 0 lX).trans m0
      have n1:=(hc_w1 w.heap.size 1 lX).trans m1
      have n2:=(hc_w1 w.heap.size 2 lX).trans m2
      have n3:=(hc_w1 w.heap.size 3 lX).trans m3
      clear hc_w1 hf_w1
      go_wp2
      go_roundw
      case rel=>exact ⟨k + 1,by go_num,by omega,hT2,⟨n0,n1,n2,n3⟩,lX,bX⟩
      case measure=>simp [intOf];omega
   ·have hT2:=HT1 (fun _=>hbi.1 hbl)
    have HBK:=Lib.hid fun (w:World) hr=>HBL.out w hr a 16 (by omega) (by omega) true (by rw [← ha.out];exact hbl)
    clear HT1 HN hbi hbl
    by_cases hk0:k=0
    ·have d1:((k:Int) == 0)=true:=by simp [hk0]
     clear hu1 hk0
     go_wp2_with fail
     go_at_call 219
     refine (HBK.out _ ((hr.later hb_wr).later bX)).mono ?_
     rintro e w2 ⟨rfl,hb_w2⟩
     obtain ⟨hc_w2,hf_w2⟩:=bcell hb_w2;have hs_w2:=hb_w2.size;(try simp only [zZ] at hs_w2)
     have n0:=(hc_w2 w.heap.size 0 lX).trans m0
     have n1:=(hc_w2 w.heap.size 1 lX).trans m1
     have n2:=(hc_w2 w.heap.size 2 lX).trans m2
     have n3:=(hc_w2 w.heap.size 3 lX).trans m3
     clear hc_w2 hf_w2
     go_wp2
     go_roundw
     case rel=>exact ⟨k + 1,by go_num,by omega,hT2,⟨n0,n1,n2,n3⟩,lX,bX⟩
     case measure=>simp [intOf];omega
    ·have d1:((k:Int) == 0)=false:=by simp;omega
     clear hk0
     rcases hus:tb us k with _ | _
     ·have HUK:=Lib.hid fun (w:World) hu=>HU.out w hu (k:Int) 1 (by omega) (by omega) (by omega) false (by rw [hu1];exact hus)
      clear hu1 hus
      go_wp2_with fail
      go_at_call 218
      refine (HUK.out _ ((hu.later hb_wr).later bX)).mono ?_
      rintro e w1 ⟨rfl,hb_w1⟩
      obtain ⟨hc_w1,hf_w1⟩:=bcell hb_w1;have hs_w1:=hb_w1.size;(try simp only [zZ] at hs_w1)
      have n0:=(hc_w1 w.heap.size 0 lX).trans m0
      have n1:=(hc_w1 w.heap.size 1 lX).trans m1
      have n2:=(hc_w1 w.heap.size 2 lX).trans m2
      have n3:=(hc_w1 w.heap.size 3 lX).trans m3
      clear hc_w1 hf_w1
      go_wp2_with fail
      go_at_call 219
      refine (HBK.out _ ((hr.later hb_wr).later bX)).mono ?_
      rintro e w2 ⟨rfl,hb_w2⟩
      obtain ⟨hc_w2,hf_w2⟩:=bcell hb_w2;have hs_w2:=hb_w2.size;(try simp only [zZ] at hs_w2)
      have o0:=(hc_w2 w.heap.size 0 lX).trans n0
      have o1:=(hc_w2 w.heap.size 1 lX).trans n1
      have o2:=(hc_w2 w.heap.size 2 lX).trans n2
      have o3:=(hc_w2 w.heap.size 3 lX).trans n3
      clear hc_w2 hf_w2
      go_wp2
      go_roundw
      case rel=>exact ⟨k + 1,by go_num,by omega,hT2,⟨o0,o1,o2,o3⟩,lX,bX⟩
      case measure=>simp [intOf];omega
     ·have HUK:=Lib.hid fun (w:World) hu=>HU.out w hu (k:Int) 1 (by omega) (by omega) (by omega) true (by rw [hu1];exact hus)
      clear hu1 hus
      go_wp2_with fail
      go_at_call 218
      refine (HUK.out _ ((hu.later hb_wr).later bX)).mono ?_
      rintro e w1 ⟨rfl,hb_w1⟩
      obtain ⟨hc_w1,hf_w1⟩:=bcell hb_w1;have hs_w1:=hb_w1.size;(try simp only [zZ] at hs_w1)
      have n0:=(hc_w1 w.heap.size 0 lX).trans m0
      have n1:=(hc_w1 w.heap.size 1 lX).trans m1
      have n2:=(hc_w1 w.heap.size 2 lX).trans m2
      have n3:=(hc_w1 w.heap.size 3 lX).trans m3
      clear hc_w1 hf_w1
      go_wp2
      go_roundw
      case rel=>exact ⟨k + 1,by go_num,by omega,hT2,⟨n0,n1,n2,n3⟩,lX,bX⟩
      case measure=>simp [intOf];omega
  ·obtain rfl:k=N:=by omega
   have HT:=hT
   clear hT hlt hk
   generalize wr=wA at *
   go_wp2_with fail
   go_loopw [35] (fun ii wr=>∃ j:Nat,ii=.int .i64 (j:Nat)∧j ≤ l.length∧Hid (∀ i,i < j → SoundS ws (nth l i)) ∧
    (wr.cell? ⟨w.heap.size,0,none⟩=some (.slice A ws.length ca)∧wr.cell? ⟨w.heap.size,1,none⟩=some (.int .i64 k)∧wr.cell? ⟨w.heap.size,2,none⟩=some (.slice U us.length cu)∧wr.cell? ⟨w.heap.size,3,none⟩=some (.slice V l.length cv))∧w.heap.size + 1 ≤ wr.heap.size∧Below w.heap.size w wr) (fun ii _=>l.length - (intOf ii).toNat)
   case atStart=>exact ⟨0,rfl,Nat.zero_le _,Lib.hid (fun j hj=>by omega),⟨m0,m1,m2,m3⟩,hsz,hb_wr⟩
   case round=>
    clear m0 m1 m2 m3 hsz hb_wr hsr p0l
    obtain ⟨j,rfl,hj,hS,⟨m0,m1,m2,m3⟩,hsz,hb_wr⟩:=hrel
    have hsr:=hb_wr.size
    have p0l:w.heap.size < wr.heap.size:=by omega
    by_cases hlt:j < l.length
    ·obtain ⟨bb,off,rfl,hbb,hc⟩:=(hv.later hb_wr).at_ (by omega)
     obtain ⟨Aa,caa,Am,cam,c8,ra,rm⟩:=hc j hlt
     have HS1:SoundS ws (nth l j) → Hid (∀ i,i < j + 1 → SoundS ws (nth l i)):=fun h=>Lib.hid (fun i hi=>by
      by_cases e:i=j
      ·rw [e];exact h
      ·exact hS.out i (by omega))
     have HN:b=true → SoundS ws (nth l j):=fun hb=>(HB.out.1 hb).sound j hlt
     obtain ⟨b',hb'⟩:∃ b':Bool,b'=true ↔ SoundS ws (nth l j):=by
      by_cases h:SoundS ws (nth l j)
      ·exact ⟨true,fun _=>h,fun _=>rfl⟩
      ·exact ⟨false,fun h'=>(by cases h'),fun h'=>absurd h' h⟩
     have HSj:=Lib.hid fun (w:World) hz hr hAa hAm=>HSO.out w hz hr Aa caa Am cam j hlt hAa hAm b' hb'
     obtain ⟨d,hd⟩:∃ d,Hid (nth l j=d):=⟨_,rfl⟩
     rw [hd.out] at c8 ra rm HS1 HN hb' HSj
     obtain ⟨c0,c1,c2,c3,c4,c5,c6,c7⟩:=id c8
     clear hc
     rcases b' with _ | _
     ·obtain rfl:b=false:=by
       rcases b with _ | _
       ·rfl
       ·exact absurd (hb'.2 (HN rfl)) (by simp)
      clear HS1 HN hb'
      obtain ⟨f,p,z,an,aw,mn,mw,s⟩:=d
      unfold spv at HSj
      simp only at *
      go_wp2_with (go_at_call 220;refine (HSj.out _ ((hz.later hb_wr).later bX) ((hr.later hb_wr).later bX) (ra.later bX) (rm.later bX)).mono ?_;rintro e w1 ⟨rfl,hb_w1⟩;obtain ⟨hc_w1,hf_w1⟩:=bcell hb_w1;have hz_w1_wr_0:wr.heap.size < w1.heap.size:=lY hb_w1.size;have hs_w1:=hb_w1.size;(try simp only [zZ] at hs_w1))
      go_ret
      exact ⟨rfl,bX⟩
     ·have hS2:=HS1 (hb'.1 rfl)
      clear HS1 HN hb'
      obtain ⟨f,p,z,an,aw,mn,mw,s⟩:=d
      unfold spv at HSj
      simp only at *
      go_wp2_with (go_at_call 220;refine (HSj.out _ ((hz.later hb_wr).later bX) ((hr.later hb_wr).later bX) (ra.later bX) (rm.later bX)).mono ?_;rintro e w1 ⟨rfl,hb_w1⟩;obtain ⟨hc_w1,hf_w1⟩:=bcell hb_w1;have hz_w1_wr_0:wr.heap.size < w1.heap.size:=lY hb_w1.size;have hs_w1:=hb_w1.size;(try simp only [zZ] at hs_w1);have n0:=(hc_w1 w.heap.size 0 lX).trans ((World.cell?_alloc_lt _ _ ⟨_,_,_⟩ lX).trans m0);have n1:=(hc_w1 w.heap.size 1 lX).trans ((World.cell?_alloc_lt _ _ ⟨_,_,_⟩ lX).trans m1);have n2:=(hc_w1 w.heap.size 2 lX).trans ((World.cell?_alloc_lt _ _ ⟨_,_,_⟩ lX).trans m2);have n3:=(hc_w1 w.heap.size 3 lX).trans ((World.cell?_alloc_lt _ _ ⟨_,_,_⟩ lX).trans m3))
      go_roundw
      case rel=>exact ⟨j + 1,by go_num,by omega,hS2,⟨n0,n1,n2,n3⟩,lX,bX⟩
      case measure=>simp [intOf];omega
    ·obtain rfl:j=l.length:=by omega
     obtain rfl:b=true:=HB.out.2 ⟨fun i hi=>HT.out i (by simp only at hi;omega),hS.out⟩
     go_wp2
     go_ret
     exact ⟨rfl,bX⟩
end
def curT (ws:List Nat) (l:List Sd) (i k:Nat):List Ob:=(obsL ws l i ++ obsS ws (nth l i) i k).filter (·.c)
theorem curT_next (ws:List Nat) (l:List Sd) (i:Nat):curT ws l i (slN (nth l i))=curT ws l (i + 1) 0:=by
 simp [curT,obsL,obsS]
theorem curT_end (h:Hp):curT h.ws h.l h.l.length 0=cursH h:=by
 simp [curT,obsS,cursH,obsH]
theorem curT_hit (ws:List Nat) (l:List Sd) (i k:Nat) (ha:tb (nth l i).aw k=true) (hc:tb (curW (nth l i)) k=true):curT ws l i (k + 1)=curT ws l i k ++ [obAt ws (nth l i) i k]:=by
 unfold curT
 rw [obsS,if_pos ha,← List.append_assoc,List.filter_append (_ ++ _)]
 have:(obAt ws (nth l i) i k).c=true:=hc
 simp [this]
theorem curT_miss (ws:List Nat) (l:List Sd) (i k:Nat) (hc:tb (curW (nth l i)) k=false):curT ws l i (k + 1)=curT ws l i k:=by
 unfold curT
 rw [obsS,← List.append_assoc,List.filter_append (_ ++ _)]
 split
 ·have:(obAt ws (nth l i) i k).c=false:=hc
  simp [this]
 ·simp
theorem curT_skip (ws:List Nat) (l:List Sd) (i k:Nat) {j:Nat} (hkj:k ≤ j) (hc:∀ q,k ≤ q → q < j → tb (curW (nth l i)) q=false):curT ws l i j=curT ws l i k:=by
 induction j with
 | zero=>obtain rfl:k=0:=by omega
         rfl
 | succ j ih=>
  by_cases e:k=j + 1
  ·rw [e]
  ·rw [curT_miss ws l i j (hc j (by omega) (by omega)),ih (by omega) fun q h1 h2=>hc q h1 (by omega)]
theorem obsS_pre (ws:List Nat) (d:Sd) (i:Nat) {k j:Nat} (hkj:k ≤ j):obsS ws d i k <+: obsS ws d i j:=by
 induction j with
 | zero=>obtain rfl:k=0:=by omega
         exact List.prefix_refl _
 | succ j ih=>
  by_cases e:k=j + 1
  ·rw [e];exact List.prefix_refl _
  ·exact (ih (by omega)).trans (List.prefix_append _ _)
theorem obsL_pre (ws:List Nat) (l:List Sd) {i j:Nat} (hij:i ≤ j):obsL ws l i <+: obsL ws l j:=by
 induction j with
 | zero=>obtain rfl:i=0:=by omega
         exact List.prefix_refl _
 | succ j ih=>
  by_cases e:i=j + 1
  ·rw [e];exact List.prefix_refl _
  ·exact (ih (by omega)).trans (List.prefix_append _ _)
theorem curT_pre (h:Hp) {i k:Nat} (hi:i < h.l.length) (hk:k ≤ slN (nth h.l i)):curT h.ws h.l i k <+: cursH h:=by
 have h1:obsL h.ws h.l i ++ obsS h.ws (nth h.l i) i k <+: obsL h.ws h.l (i + 1):=by
  rw [obsL]
  exact (List.prefix_append_right_inj _).2 (obsS_pre _ _ _ hk)
 exact (h1.trans (obsL_pre h.ws h.l (j:=h.l.length) (by omega))).filter _
theorem obsS_len (ws:List Nat) (d:Sd) (i k:Nat):(obsS ws d i k).length ≤ k:=by
 induction k with
 | zero=>exact Nat.le_refl _
 | succ k ih=>
  rw [obsS,List.length_append]
  split <;> simp <;> omega
theorem obsL_len {ws:List Nat} {l:List Sd} (h:OkL l) {i:Nat} (hi:i ≤ l.length):(obsL ws l i).length ≤ 8 * i:=by
 induction i with
 | zero=>exact Nat.le_refl _
 | succ i ih=>
  have h1:=ih (by omega)
  have h2:=obsS_len ws (nth l i) i (slN (nth l i))
  have h3:=(h.at_ (j:=i) (by omega)).slK
  rw [obsL,List.length_append]
  omega
theorem cursH_len {h:Hp} (hl:OkL h.l):(cursH h).length ≤ 2048:=by
 have h1:=obsL_len (ws:=h.ws) hl (Nat.le_refl h.l.length)
 have h2:=List.length_filter_le (fun o:Ob=>o.c) (obsH h)
 have h3:=hl.1
 unfold cursH
 unfold obsH at h2
 unfold obsH
 omega
def lastR:List Nat → Nat → Nat
 | [],_=>0
 | a :: t,j=>if a=j then t.length + 1 else lastR t j
def lastP (t:List Nat) (j:Nat):Nat:=lastR t.reverse j
theorem lastP_snoc (t:List Nat) (a j:Nat):lastP (t ++ [a]) j=if a=j then t.length + 1 else lastP t j:=by
 unfold lastP
 rw [List.reverse_append,List.reverse_singleton,List.singleton_append,lastR,List.length_reverse]
theorem lastR_le (t:List Nat) (j:Nat):lastR t j ≤ t.length:=by
 induction t with
 | nil=>exact Nat.le_refl _
 | cons a t ih=>
  rw [lastR]
  split
  ·simp
  ·simp;omega
theorem lastP_le (t:List Nat) (j:Nat):lastP t j ≤ t.length:=by
 have:=lastR_le t.reverse j
 rwa [List.length_reverse] at this
theorem lastP_hin {t:List Nat} (hn:t.Nodup) (h0:0 ∉ t) (j:Nat):lastP t j=hin t j:=by
 have key:∀ (n:Nat) (t:List Nat),t.length=n → t.Nodup → ∀ j,(lastP t j ≠ 0 → t.getD (lastP t j - 1) 0=j)∧(lastP t j=0 → ∀ q,q < t.length → t.getD q 0 ≠ j):=by
  intro n
  induction n with
  | zero=>
   intro t ht _ j
   obtain rfl:t=[]:=List.length_eq_zero_iff.1 ht
   exact ⟨fun h=>absurd rfl h,fun _ q hq=>by simp at hq⟩
  | succ n ih=>
   intro t ht hnd j
   obtain ⟨s,a,rfl⟩:∃ s a,t=s ++ [a]:=by
    refine ⟨t.dropLast,t.getLast (by intro h;rw [h] at ht;simp at ht),?_⟩
    exact (List.dropLast_concat_getLast _).symm
   have hs:s.length=n:=by simpa using ht
   have hnd':s.Nodup:=(List.nodup_append.1 hnd).1
   obtain ⟨i1,i2⟩:=ih s hs hnd' j
   rw [lastP_snoc]
   by_cases e:a=j
   ·rw [if_pos e]
    refine ⟨fun _=>?_,fun h=>by omega⟩
    rw [getD_snoc]
    simp [e]
   ·rw [if_neg e]
    have hle:=lastP_le s j
    refine ⟨fun h=>?_,fun h q hq=>?_⟩
    ·rw [getD_snoc,if_pos (by omega)]
     exact i1 h
    ·rw [getD_snoc]
     split
     ·exact i2 h q (by assumption)
     ·split
      ·exact e
      ·simp at hq;omega
 obtain ⟨k1,k2⟩:=key t.length t rfl hn j
 by_cases hz:lastP t j=0
 ·rw [hz,hin_miss (k2 hz)]
 ·have hg:=k1 hz
  have hle:=lastP_le t j
  have hj:j ≠ 0:=by
   rintro rfl
   apply h0
   rw [← hg,List.getD_eq_getElem?_getD,List.getElem?_eq_getElem (by omega)]
   exact List.getElem_mem _
  have:=hin_hit (t:=t) (a:=j) (k:=lastP t j - 1) hj (by omega) hg (by
   intro q hq he
   have e1:t[q]'(by omega)=t[lastP t j - 1]'(by omega):=by
    rw [List.getD_eq_getElem?_getD,List.getElem?_eq_getElem (by omega)] at hg he
    simp at hg he
    rw [hg,he]
   exact absurd ((List.getElem_inj hn).1 e1) (by omega))
  rw [this]
  omega
theorem addrs_nodup {h:Hp} (hl:OkL h.l):(addrs (cursH h)).Nodup:=by
 unfold addrs
 rw [List.nodup_iff_pairwise_ne,List.pairwise_map]
 exact (cursH_asc hl).imp fun hlt=>by omega
theorem addrs_pos {h:Hp} (hf:Framed h) (ho:Owned h) (hs:Filled h):0 ∉ addrs (cursH h):=by
 intro hm
 unfold addrs at hm
 rw [List.mem_map] at hm
 obtain ⟨o,h1,h2⟩:=hm
 have:=(OkH.ob hf ho hs (cursH_mem h1).1).a0
 omega
end Go.Proofs.YtafpkaifaccehaaGreatDoor
