/- Parts of the proof. -/
import Derived.Laws.BitsAllLaws
import Derived.Below
import Derived.WalkArith
set_option linter.unusedVariables false
set_option linter.unusedSimpArgs false
namespace Go.Proofs.YtafpkaifaccehaaGreatDoor
open Go
def p2 (k:Nat):Nat:=2 ^ k
def W64:Nat:=18446744073709551616
theorem W64_eq:W64=2 ^ 64:=rfl
theorem wrap_pow (k:Nat) (h:k < 64):IntKind.u64.wrap ((2:Int) ^ k)=((p2 k:Nat):Int):=by
 have h2:(2:Nat) ^ k < 2 ^ 64:=Nat.pow_lt_pow_right (by omega) h
 have e:((2:Int) ^ k)=((2 ^ k:Nat):Int):=by simp
 rw [e,IntKind.wrap_u64]
 unfold p2
 generalize (2:Nat) ^ k=p at h2
 omega
theorem and_pow (x k:Nat) (hx:x < W64) (hk:k < 64):(bits .and .u64 (x:Int) ((p2 k:Nat):Int) != 0)=x.testBit k:=by
 have h2:(2:Nat) ^ k < 2 ^ 64:=Nat.pow_lt_pow_right (by omega) hk
 unfold W64 at hx
 unfold p2
 rw [u64_and_nat x (2 ^ k) hx (by omega),nat_bit,Nat.testBit_eq_decide_div_mod_eq]
 have hp:0 < 2 ^ k:=Nat.two_pow_pos k
 rcases Nat.mod_two_eq_zero_or_one (x / 2 ^ k) with h | h
 ·rw [h];simp
 ·rw [h]
  have:((1 * 2 ^ k:Nat):Int) ≠ 0:=by omega
  simp only [decide_true,bne_iff_ne]
  exact this
def setBit (x k:Nat) (v:Bool):Nat:=if v then x ||| 2 ^ k else x &&& (18446744073709551615 - 2 ^ k)
theorem or_pow (x k:Nat) (hx:x < W64) (hk:k < 64):bits .or .u64 (x:Int) ((p2 k:Nat):Int)=((setBit x k true:Nat):Int):=by
 have h2:(2:Nat) ^ k < 2 ^ 64:=Nat.pow_lt_pow_right (by omega) hk
 unfold W64 at hx
 exact u64_or_nat x (2 ^ k) hx (by omega)
theorem andNot_pow (x k:Nat) (hx:x < W64) (hk:k < 64):bits .andNot .u64 (x:Int) ((p2 k:Nat):Int)=((setBit x k false:Nat):Int):=by
 have h2:(2:Nat) ^ k < 2 ^ 64:=Nat.pow_lt_pow_right (by omega) hk
 unfold W64 at hx
 exact u64_andNot_nat x (2 ^ k) hx (by omega)
theorem testBit_mask (k j:Nat) (hk:k < 64) (hj:j < 64):(18446744073709551615 - 2 ^ k:Nat).testBit j=(decide (j ≠ k)):=by
 have h2:(2:Nat) ^ k < 2 ^ 64:=Nat.pow_lt_pow_right (by omega) hk
 have e:(18446744073709551615 - 2 ^ k:Nat)=2 ^ 64 - (2 ^ k + 1):=by omega
 rw [e,Nat.testBit_two_pow_sub_succ h2,Nat.testBit_two_pow]
 simp [hj,eq_comm]
theorem testBit_setBit (x k j:Nat) (v:Bool) (hk:k < 64) (hj:j < 64):(setBit x k v).testBit j=if j=k then v else x.testBit j:=by
 unfold setBit
 cases v
 ·simp only [Bool.false_eq_true,if_false,Nat.testBit_and,testBit_mask k j hk hj]
  by_cases h:j=k <;> simp [h]
 ·simp only [if_true,Nat.testBit_or,Nat.testBit_two_pow]
  by_cases h:j=k
  ·simp [h]
  ·simp [h,Ne.symm h]
theorem setBit_lt (x k:Nat) (v:Bool) (hx:x < W64) (hk:k < 64):setBit x k v < W64:=by
 have h2:(2:Nat) ^ k < 2 ^ 64:=Nat.pow_lt_pow_right (by omega) hk
 unfold setBit
 rw [W64_eq] at *
 cases v
 ·simp only [Bool.false_eq_true,if_false]
  exact Nat.lt_of_le_of_lt Nat.and_le_left hx
 ·simp only [if_true]
  exact Nat.or_lt_two_pow hx h2
def tb (ws:List Nat) (i:Nat):Bool:=(ws.getD (i / 64) 0).testBit (i % 64)
def putW (ws:List Nat) (i:Nat) (v:Bool):List Nat:=ws.set (i / 64) (setBit (ws.getD (i / 64) 0) (i % 64) v)
def fillW (ws:List Nat) (a:Nat):Nat → Bool → List Nat
 | 0,_=>ws
 | n + 1,v=>putW (fillW ws a n v) (a + n) v
def Words (ws:List Nat):Prop:=∀ x ∈ ws,x < W64
theorem Words.at_ {ws:List Nat} (h:Words ws) (i:Nat):ws.getD i 0 < W64:=by
 by_cases hi:i < ws.length
 ·rw [List.getD_eq_getElem?_getD,List.getElem?_eq_getElem hi]
  exact h _ (List.getElem_mem hi)
 ·rw [List.getD_eq_getElem?_getD,List.getElem?_eq_none (by omega)]
  simp [W64]
theorem length_putW (ws:List Nat) (i:Nat) (v:Bool):(putW ws i v).length=ws.length:=by simp [putW]
theorem length_fillW (ws:List Nat) (a n:Nat) (v:Bool):(fillW ws a n v).length=ws.length:=by
 induction n with
 | zero=>rfl
 | succ n ih=>rw [fillW,length_putW,ih]
theorem tb_putW (ws:List Nat) (i j:Nat) (v:Bool) (hi:i < 64 * ws.length):tb (putW ws i v) j=if j=i then v else tb ws j:=by
 have hk:i % 64 < 64:=Nat.mod_lt _ (by omega)
 have hj:j % 64 < 64:=Nat.mod_lt _ (by omega)
 unfold tb putW
 by_cases h:j / 64=i / 64
 ·have hl:i / 64 < ws.length:=by omega
  rw [h,List.getD_eq_getElem?_getD,List.getElem?_set_self hl,Option.getD_some,testBit_setBit _ _ _ _ hk hj]
  by_cases e:j % 64=i % 64
  ·have:j=i:=by omega
   subst this;simp
  ·have:j ≠ i:=by rintro rfl;exact e rfl
   simp [e,this]
 ·have:j ≠ i:=by rintro rfl;exact h rfl
  rw [List.getD_eq_getElem?_getD,List.getElem?_set_ne (Ne.symm h),if_neg this,List.getD_eq_getElem?_getD]
theorem tb_fillW (ws:List Nat) (a n j:Nat) (v:Bool) (hi:a + n ≤ 64 * ws.length):tb (fillW ws a n v) j=if a ≤ j∧j < a + n then v else tb ws j:=by
 induction n with
 | zero=>rw [fillW,if_neg (by omega)]
 | succ n ih=>
  rw [fillW,tb_putW _ _ _ _ (by rw [length_fillW];omega),ih (by omega)]
  by_cases e:j=a + n
  ·subst e;rw [if_pos rfl,if_pos (by omega)]
  ·rw [if_neg e]
   by_cases h:a ≤ j∧j < a + n
   ·rw [if_pos h,if_pos (by omega)]
   ·rw [if_neg h,if_neg (by omega)]
def Right (n:Int) (ws:List Nat):Prop:=0 ≤ n∧n ≤ 4096∧ws.length=(n.toNat + 63) / 64∧∀ i,n.toNat ≤ i → i < 64 * ws.length → tb ws i=false
theorem Right.long {n:Int} {ws:List Nat} (h:Right n ws):n ≤ 64 * ws.length:=by
 obtain ⟨h0,_,h2,_⟩:=h;omega
theorem right_putW {n:Int} {ws:List Nat} (h:Right n ws) (i:Nat) (v:Bool) (hi:(i:Int) < n):Right n (putW ws i v):=by
 have hl:=h.long
 obtain ⟨h0,h1,h2,h3⟩:=h
 refine ⟨h0,h1,by rw [length_putW];exact h2,fun j hj hj2=>?_⟩
 rw [length_putW] at hj2
 rw [tb_putW _ _ _ _ (by omega),if_neg (by omega)]
 exact h3 j hj hj2
theorem right_fillW {n:Int} {ws:List Nat} (h:Right n ws) (a k:Nat) (v:Bool) (hi:((a + k:Nat):Int) ≤ n):Right n (fillW ws a k v):=by
 induction k with
 | zero=>exact h
 | succ k ih=>exact right_putW (ih (by omega)) _ _ (by omega)
theorem tail_right (n:Nat) (ws:List Nat) (hw:Words ws) (hl:ws.length=(n + 63) / 64) (hn:n % 64 ≠ 0) :
  (ws.getD (ws.length - 1) 0 >>> (n % 64)=0) ↔ ∀ i,n ≤ i → i < 64 * ws.length → tb ws i=false:=by
 have hlast:ws.length - 1=n / 64:=by omega
 rw [hlast]
 constructor
 ·intro h i h1 h2
  unfold tb
  have e:i / 64=n / 64:=by omega
  rw [e]
  have:i % 64=n % 64 + (i % 64 - n % 64):=by omega
  rw [this,← Nat.testBit_shiftRight,h,Nat.zero_testBit]
 ·intro h
  apply Nat.eq_of_testBit_eq
  intro j
  rw [Nat.testBit_shiftRight,Nat.zero_testBit]
  by_cases hj:n % 64 + j < 64
  ·have:=h (64 * (n / 64) + (n % 64 + j)) (by omega) (by omega)
   unfold tb at this
   rwa [show (64 * (n / 64) + (n % 64 + j)) / 64=n / 64 by omega,show (64 * (n / 64) + (n % 64 + j)) % 64=n % 64 + j by omega] at this
  ·apply Nat.testBit_lt_two_pow
   exact Nat.lt_of_lt_of_le (hw.at_ _) (by rw [W64_eq];exact Nat.pow_le_pow_right (by omega) (by omega))
theorem is_form (x k:Nat):(((x:Int) / 2 ^ k).tmod 2 == 1)=x.testBit k:=by
 have e:(x:Int) / 2 ^ k=((x / 2 ^ k:Nat):Int):=by simp
 rw [e,Nat.testBit_eq_decide_div_mod_eq]
 generalize x / 2 ^ k=y
 rw [Bool.eq_iff_iff,Int.tmod_eq_emod_of_nonneg (by omega)]
 simp only [beq_iff_eq,decide_eq_true_eq]
 omega
theorem shr_form (x k:Nat):((x:Int) / 2 ^ k != 0)=(x >>> k != 0):=by
 have e:(x:Int) / 2 ^ k=((x >>> k:Nat):Int):=by rw [Nat.shiftRight_eq_div_pow];simp
 rw [e]
 generalize x >>> k=y
 rw [Bool.eq_iff_iff]
 simp only [bne_iff_ne]
 omega
end Go.Proofs.YtafpkaifaccehaaGreatDoor
