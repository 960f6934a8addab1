/- Texts of SpanVerifies, one behind the other: RegionTakes, NumPlain, NumPop, PosPlain, NumCalls, NumBitCalls, NumLowPlain, NumLowCalls. -/
import Derived.Test.YthdpkaiieomdoaaGreatDoorProg
import Derived.WalkKit
import Derived.WalkLawsBesides
import Derived.Deep.RegionHeld3
import Derived.OpenShut
import Derived.Deep.LoopGhost
namespace Go.Proofs.YthdpkaiieomdoaaGreatDoor
set_option maxRecDepth 100000
theorem tkH {ops:Array Oper} {Q:Exit→Act→World→Prop} {S:World→Prop} {fuel:Nat} {lb:List Bool} {l:List Value} {ds:List Deferred} {w:World} (oi:Oper) (v:Value) {t:Tmp} (i:Nat) (hQ:∀ c (a:Act) (t:Tmp) (v:Value) w,Q (.panic c) (a.put (some t) v) w→Q (.panic c) a w) (hy:YieldsIf Tryz.prog ops S oi v ⟨l.toArray,ds⟩) (hS:S w)
    (h:wpAnyH Tryz.prog .any ops Q S fuel (lb.set i true).toArray ⟨(l.set t v).toArray,ds⟩ w) (hi:ops[i]?=some oi:=by rfl) (hd:oi.dst=some t:=by rfl) (hs:Region.noSelect ops=true:=by kernel_rfl) (hf:Region.free .any ops lb.toArray i=true:=by kernel_rfl) (hr:(Region.ready .any ops lb.toArray).contains i=true:=by kernel_rfl):
    wpAnyH Tryz.prog .any ops Q S (fuel+1) lb.toArray ⟨l.toArray,ds⟩ w:=by
  refine wpAnyH_take hi hs hf hr (fun c a w h=>by rw [hd] at h;exact hQ _ _ _ _ _ h) hy hS ?_
  rw [hd]
  simpa only [Act.put,List.setIfInBounds_toArray] using h
theorem tkP {ops:Array Oper} {Q:Exit→Act→World→Prop} {S:World→Prop} {fuel:Nat} {lb:List Bool} {l:List Value} {ds:List Deferred} {w:World} (oi:Oper) (v:Value) {t:Tmp} (i:Nat) (hQ:∀ c (a:Act) (t:Tmp) (v:Value) w,Q (.panic c) (a.put (some t) v) w→Q (.panic c) a w) (hS:S w)
    (h:wpAnyH Tryz.prog .any ops Q S fuel (lb.set i true).toArray ⟨(l.set t v).toArray,ds⟩ w) (hy:YieldsIf Tryz.prog ops S oi v ⟨l.toArray,ds⟩:=by exact Yields.yieldsIf (Or.inl ⟨by rfl,fun W=>by go_simp⟩)) (hi:ops[i]?=some oi:=by rfl) (hd:oi.dst=some t:=by rfl) (hs:Region.noSelect ops=true:=by kernel_rfl) (hf:Region.free .any ops lb.toArray i=true:=by kernel_rfl) (hr:(Region.ready .any ops lb.toArray).contains i=true:=by kernel_rfl):
    wpAnyH Tryz.prog .any ops Q S (fuel+1) lb.toArray ⟨l.toArray,ds⟩ w:=by
  refine wpAnyH_take hi hs hf hr (fun c a w h=>by rw [hd] at h;exact hQ _ _ _ _ _ h) hy hS ?_
  rw [hd]
  simpa only [Act.put,List.setIfInBounds_toArray] using h
theorem tkB {ops:Array Oper} {Q:Exit→Act→World→Prop} {fuel:Nat} {lb:List Bool} {l:List Value} {ds:List Deferred} {w:World} (oi:Oper) (v:Value) {t:Tmp} (i:Nat) (hQ:∀ c (a:Act) (t:Tmp) (v:Value) w,Q (.panic c) (a.put (some t) v) w→Q (.panic c) a w)
    (h:wpAny Tryz.prog .any ops Q fuel (lb.set i true).toArray ⟨(l.set t v).toArray,ds⟩ w) (hy:Yields Tryz.prog ops oi v ⟨l.toArray,ds⟩:=by exact Or.inl ⟨by rfl,fun W=>by go_simp⟩) (hi:ops[i]?=some oi:=by rfl) (hd:oi.dst=some t:=by rfl) (hs:Region.noSelect ops=true:=by kernel_rfl) (hf:Region.free .any ops lb.toArray i=true:=by kernel_rfl) (hr:(Region.ready .any ops lb.toArray).contains i=true:=by kernel_rfl):
    wpAny Tryz.prog .any ops Q (fuel+1) lb.toArray ⟨l.toArray,ds⟩ w:=by
  refine wpAny_take hi hs hf hr (fun c a w h=>by rw [hd] at h;exact hQ _ _ _ _ _ h) hy ?_
  rw [hd]
  simpa only [Act.put,List.setIfInBounds_toArray] using h
end Go.Proofs.YthdpkaiieomdoaaGreatDoor

namespace Go.Proofs.YthdpkaiieomdoaaGreatDoor
open Go.RowKit
def SHL (x:Nat) (n:Int):Nat:=if n<0 then x / 2 ^ (-n).toNat else x*2 ^ n.toNat % 2 ^ 64
def SHR (x:Nat) (n:Int):Nat:=if n<0 then x*2 ^ (-n).toNat % 2 ^ 64 else x / 2 ^ n.toNat
def MASK (n:Int):Nat:=2 ^ min n.toNat 64 - 1
theorem z7b {x:Nat} (hx:x<2 ^ 64) (n:Int):SHL x n<2 ^ 64:=by
  unfold SHL
  split
  · exact Nat.lt_of_le_of_lt (Nat.div_le_self _ _) hx
  · exact Nat.mod_lt _ (by decide)
theorem wf_u64 {x:Int} (h:(Lit.int .u64 x).wf=true):0≤x∧x<2 ^ 64:=by
  have:=bounds_u64 h
  omega
theorem z9f {x k:Nat} (hx:x<2 ^ 64) (h:64≤k):x / 2 ^ k=0:=
  Nat.div_eq_of_lt (Nat.lt_of_lt_of_le hx (Nat.pow_le_pow_right (by decide) h))
theorem z9g {x:Nat} (hx:x<2 ^ 64) (k:Nat):x / 2 ^ min k 64=x / 2 ^ k:=by
  by_cases h:k≤64
  · rw [Nat.min_eq_left h]
  · rw [Nat.min_eq_right (by omega),z9f hx (Nat.le_refl _),z9f hx (by omega)]
theorem z9h (x k:Nat):x*2 ^ min k 64 % 2 ^ 64=x*2 ^ k % 2 ^ 64:=by
  by_cases h:k≤64
  · rw [Nat.min_eq_left h]
  · rw [Nat.min_eq_right (by omega),show k=64+(k - 64) by omega,Nat.pow_add,Nat.mul_mod_left,← Nat.mul_assoc,Nat.mul_right_comm,Nat.mul_mod_left]
theorem z09 (z:Int):IntKind.u64.wrap z=z % 2 ^ 64:=by rw [IntKind.wrap_u64];rfl
theorem z5w (n:Int) (h0 : -(2 ^ 63)≤n) (h:n<0):(IntKind.u64.wrap (-IntKind.u64.wrap n)).toNat=(-n).toNat:=by
  rw [z09,z09];omega
theorem z9Q (n:Int) (h0:n<2 ^ 63) (h:¬ n<0):(IntKind.u64.wrap n).toNat=n.toNat:=by
  rw [z09];omega
theorem z2M (X k:Nat):(X:Int) / 2 ^ k=((X / 2 ^ k:Nat):Int):=by simp
theorem z5c (X k:Nat):IntKind.u64.wrap ((X:Int)*2 ^ k)=((X*2 ^ k % 2 ^ 64:Nat):Int):=by rw [z09];simp
theorem z9R {X:Nat} (hX:X<2 ^ 64) {n:Int} (h0 : -(2 ^ 63)≤n) (h1:n<2 ^ 63):
    (if n<0 then (X:Int) / 2 ^ min (IntKind.u64.wrap (-IntKind.u64.wrap n)).toNat 64 else IntKind.u64.wrap ((X:Int)*2 ^ min (IntKind.u64.wrap n).toNat 64))=((SHL X n:Nat):Int):=by
  unfold SHL
  split
  · rename_i h
    rw [z5w n h0 h,z2M,z9g hX]
  · rename_i h
    rw [z9Q n h1 h,z5c,z9h]
theorem z5x {X:Nat} (hX:X<2 ^ 64) {n:Int} (h0 : -(2 ^ 63)≤n) (h1:n<2 ^ 63):
    (if n<0 then IntKind.u64.wrap ((X:Int)*2 ^ min (IntKind.u64.wrap (-IntKind.u64.wrap n)).toNat 64) else (X:Int) / 2 ^ min (IntKind.u64.wrap n).toNat 64)=((SHR X n:Nat):Int):=by
  unfold SHR
  split
  · rename_i h
    rw [z5w n h0 h,z5c,z9h]
  · rename_i h
    rw [z9Q n h1 h,z2M,z9g hX]
theorem z8p {n:Int} (h1:n<2 ^ 63):
    (if n≤0 then 0 else IntKind.u64.wrap (IntKind.u64.wrap (1*2 ^ min (IntKind.u64.wrap n).toNat 64) - 1))=((MASK n:Nat):Int):=by
  unfold MASK
  split
  · rename_i h
    rw [show n.toNat=0 by omega];rfl
  · rename_i h
    rw [z9Q n h1 (by omega)]
    have e:(1:Int)*2 ^ min n.toNat 64=((2 ^ min n.toNat 64:Nat):Int):=by simp
    rw [e,z09,z09]
    have h1:2 ^ min n.toNat 64≤2 ^ 64:=Nat.pow_le_pow_right (by decide) (Nat.min_le_right _ _)
    have h2:0<2 ^ min n.toNat 64:=Nat.two_pow_pos _
    generalize 2 ^ min n.toNat 64=p at *
    omega
theorem z41 {a b:Nat} (ha:a<2 ^ 64) (hb:b<2 ^ 64):bits .and .u64 (a:Int) (b:Int)=((a &&& b:Nat):Int):=bits_and_u64_nat a b ha hb
theorem z9S {a b:Nat} (ha:a<2 ^ 64) (hb:b<2 ^ 64):bits .or .u64 (a:Int) (b:Int)=((a ||| b:Nat):Int):=bits_or_u64_nat a b ha hb
theorem z8q (n:Int):(BitVec.ofInt 64 n).toNat=(n % 2 ^ 64).toNat:=by simp [BitVec.toNat_ofInt]
theorem zeV (n:Int):bits .and .i64 n 127=n % 128:=by
  show IntKind.i64.wrap ((BitVec.ofInt 64 n &&& BitVec.ofInt 64 127).toNat:Int)=_
  have h7:(BitVec.ofInt 64 127).toNat=127:=by decide
  rw [BitVec.toNat_and,z8q,h7,nat_mask7,IntKind.wrap_i64]
  omega
end Go.Proofs.YthdpkaiieomdoaaGreatDoor

namespace Go.Proofs.YthdpkaiieomdoaaGreatDoor
open Go.RowKit
def DSUM (w:Nat):Nat→Nat→Nat
  | 0,_=>0
  | n+1,x=>x % 2 ^ w+DSUM w n (x / 2 ^ w)
def MSK (k:Nat):Nat→Nat
  | 0=>0
  | n+1=>(2 ^ k - 1)+2 ^ (2*k)*MSK k n
def ADDF (k:Nat):Nat→Nat→Nat
  | 0,_=>0
  | n+1,x=>(x % 2 ^ k+x / 2 ^ k % 2 ^ k)+2 ^ (2*k)*ADDF k n (x / 2 ^ (2*k))
def DLE (w D:Nat):Nat→Nat→Prop
  | 0,_=>True
  | n+1,x=>x % 2 ^ w≤D∧DLE w D n (x / 2 ^ w)
theorem z6q (b q r s t:Nat) (hr:r<2 ^ b) (hs:s<2 ^ b):(r+2 ^ b*q) &&& (s+2 ^ b*t)=(r &&& s)+2 ^ b*(q &&& t):=by
  rw [Nat.add_comm r,Nat.add_comm s,Nat.add_comm (r &&& s)]
  apply Nat.eq_of_testBit_eq
  intro i
  have hrs:r &&& s<2 ^ b:=Nat.lt_of_le_of_lt Nat.and_le_left hr
  rw [Nat.testBit_and,Nat.testBit_two_pow_mul_add _ hr,Nat.testBit_two_pow_mul_add _ hs,Nat.testBit_two_pow_mul_add _ hrs]
  split
  · rw [Nat.testBit_and]
  · rw [Nat.testBit_and]
theorem z20 (k:Nat):2 ^ (2*k)=2 ^ k*2 ^ k:=by rw [Nat.two_mul,Nat.pow_add]
theorem zb1 (k:Nat):2 ^ k - 1<2 ^ (2*k):=by
  have h1:2 ^ k≤2 ^ (2*k):=Nat.pow_le_pow_right (by decide) (by omega)
  have h2:=Nat.two_pow_pos k
  omega
theorem zeW (k x:Nat):x=x % 2 ^ (2*k)+2 ^ (2*k)*(x / 2 ^ (2*k)):=(Nat.mod_add_div _ _).symm
theorem zcn (k x:Nat):x % 2 ^ (2*k) % 2 ^ k=x % 2 ^ k:=Nat.mod_mod_of_dvd _ ⟨2 ^ k,z20 k⟩
theorem z9i (k:Nat):∀ (n x:Nat),x &&& MSK k (n+1)=x % 2 ^ k+2 ^ (2*k)*(x / 2 ^ (2*k) &&& MSK k n):=fun n x=>by
  conv=>lhs;rw [zeW k x]
  show _ &&& ((2 ^ k - 1)+2 ^ (2*k)*MSK k n)=_
  rw [z6q _ _ _ _ _ (Nat.mod_lt _ (Nat.two_pow_pos _)) (zb1 k),Nat.and_two_pow_sub_one_eq_mod,zcn]
theorem zco (k x:Nat):x / 2 ^ k / 2 ^ (2*k)=x / 2 ^ (2*k) / 2 ^ k:=by rw [Nat.div_div_eq_div_mul,Nat.div_div_eq_div_mul,Nat.mul_comm]
theorem z61 (k:Nat):∀ (n x:Nat),(x / 2 ^ k &&& MSK k n)+(x &&& MSK k n)=ADDF k n x
  | 0,x=>by simp [MSK,ADDF]
  | n+1,x=>by
    rw [z9i,z9i,zco,ADDF,← z61 k n (x / 2 ^ (2*k)),Nat.mul_add]
    omega
theorem z9T {k:Nat} (hk:1≤k):2≤2 ^ k:=Nat.le_trans (by decide) (Nat.pow_le_pow_right (n:=2) (by decide) hk)
theorem z62 {k:Nat} (hk:1≤k) (x:Nat):x % 2 ^ k+x / 2 ^ k % 2 ^ k<2 ^ (2*k):=by
  have h1:=Nat.mod_lt x (Nat.two_pow_pos k)
  have h2:=Nat.mod_lt (x / 2 ^ k) (Nat.two_pow_pos k)
  have h3:2*2 ^ k≤2 ^ k*2 ^ k:=Nat.mul_le_mul_right _ (z9T hk)
  rw [z20]
  omega
theorem z7c {k:Nat} (hk:1≤k) (n x:Nat):ADDF k (n+1) x % 2 ^ (2*k)=x % 2 ^ k+x / 2 ^ k % 2 ^ k:=by
  rw [ADDF,Nat.add_mul_mod_self_left,Nat.mod_eq_of_lt (z62 hk x)]
theorem z6r {k:Nat} (hk:1≤k) (n x:Nat):ADDF k (n+1) x / 2 ^ (2*k)=ADDF k n (x / 2 ^ (2*k)):=by
  rw [ADDF,Nat.add_mul_div_left _ _ (Nat.two_pow_pos _),Nat.div_eq_of_lt (z62 hk x),Nat.zero_add]
theorem z35 {k:Nat} (hk:1≤k):∀ (n x:Nat),DSUM (2*k) n (ADDF k n x)=DSUM k (2*n) x
  | 0,x=>rfl
  | n+1,x=>by
    rw [DSUM,z7c hk,z6r hk,z35 hk n,show 2*(n+1)=2*n+1+1 by omega,DSUM,DSUM,Nat.div_div_eq_div_mul,← z20]
    omega
theorem z3p {k D:Nat} (hk:1≤k):∀ (n x:Nat),DLE k D (2*n) x→DLE (2*k) (2*D) n (ADDF k n x)
  | 0,_,_=>trivial
  | n + 1,x,h=>by
    rw [show 2*(n+1)=2*n+1+1 by omega] at h
    obtain ⟨h1,h2,h3⟩:=h
    refine ⟨?_,?_⟩
    · rw [z7c hk]
      omega
    · rw [z6r hk]
      refine z3p hk n _ ?_
      rw [Nat.div_div_eq_div_mul,← z20] at h3
      exact h3
theorem z7d:∀ (n x:Nat),DLE 1 1 n x
  | 0,_=>trivial
  | n+1,_=>⟨by omega,z7d n _⟩
theorem z6s {k D:Nat} (hk:1≤k) (hD:2*D<2 ^ k):∀ (n x:Nat),x<2 ^ (2*k*n)→DLE k D (2*n) x→(x / 2 ^ k+x) &&& MSK k n=ADDF k n x
  | 0,x,_,_=>by simp [MSK,ADDF]
  | n + 1,x,hx,h=>by
    rw [show 2*(n+1)=2*n+1+1 by omega] at h
    obtain ⟨h1,h2,h3⟩:=h
    rw [Nat.div_div_eq_div_mul,← z20] at h3
    have hq:x / 2 ^ (2*k)<2 ^ (2*k*n):=Nat.div_lt_of_lt_mul (by rw [← Nat.pow_add,show 2*k+2*k*n=2*k*(n+1) by rw [Nat.mul_add,Nat.mul_one,Nat.add_comm]];exact hx)
    have ih:=z6s hk hD n (x / 2 ^ (2*k)) hq h3
    have hq0:x / 2 ^ (2*k) % 2 ^ k≤D:=by
      cases n with
      | zero=>
        have:x / 2 ^ (2*k)=0:=by simpa using hq
        rw [this]
        simp
      | succ n=>exact h3.1
    have hp:=Nat.two_pow_pos k
    have e1:x=x % 2 ^ k+2 ^ k*(x / 2 ^ k % 2 ^ k)+2 ^ k*2 ^ k*(x / 2 ^ (2*k)):=by
      have a:=(Nat.mod_add_div x (2 ^ k)).symm
      have b:=(Nat.mod_add_div (x / 2 ^ k) (2 ^ k)).symm
      rw [Nat.div_div_eq_div_mul,← z20] at b
      conv=>lhs;rw [a,b]
      rw [Nat.mul_add,← Nat.mul_assoc,Nat.add_assoc]
    have e2:x / 2 ^ k=x / 2 ^ k % 2 ^ k+2 ^ k*(x / 2 ^ (2*k) % 2 ^ k)+2 ^ k*2 ^ k*(x / 2 ^ (2*k) / 2 ^ k):=by
      have a:=(Nat.mod_add_div (x / 2 ^ k) (2 ^ k)).symm
      rw [Nat.div_div_eq_div_mul,← z20] at a
      have b:=(Nat.mod_add_div (x / 2 ^ (2*k)) (2 ^ k)).symm
      conv=>lhs;rw [a,b]
      rw [Nat.mul_add,← Nat.mul_assoc,Nat.add_assoc]
    have e3:x / 2 ^ k+x=(x % 2 ^ k+x / 2 ^ k % 2 ^ k+2 ^ k*(x / 2 ^ k % 2 ^ k+x / 2 ^ (2*k) % 2 ^ k))+2 ^ (2*k)*(x / 2 ^ (2*k) / 2 ^ k+x / 2 ^ (2*k)):=by
      conv=>lhs;rw [e2];arg 2;rw [e1]
      rw [z20,Nat.mul_add,Nat.mul_add]
      omega
    have hlow:x % 2 ^ k+x / 2 ^ k % 2 ^ k+2 ^ k*(x / 2 ^ k % 2 ^ k+x / 2 ^ (2*k) % 2 ^ k)<2 ^ (2*k):=by
      have h4:2 ^ k*(x / 2 ^ k % 2 ^ k+x / 2 ^ (2*k) % 2 ^ k)≤2 ^ k*(2 ^ k - 1):=Nat.mul_le_mul_left _ (by omega)
      rw [Nat.mul_sub,Nat.mul_one] at h4
      have h5:2 ^ k≤2 ^ k*2 ^ k:=Nat.le_mul_of_pos_left _ hp
      have h6:=z20 k
      generalize 2 ^ k*(x / 2 ^ k % 2 ^ k+x / 2 ^ (2*k) % 2 ^ k)=y at h4
      generalize x / 2 ^ (2*k) % 2 ^ k=z at *
      generalize 2 ^ k*2 ^ k=u at *
      generalize 2 ^ (2*k)=v at *
      omega
    rw [e3]
    show _ &&& ((2 ^ k - 1)+2 ^ (2*k)*MSK k n)=_
    rw [z6q _ _ _ _ _ hlow (zb1 k),Nat.and_two_pow_sub_one_eq_mod,ih,Nat.add_mul_mod_self_left,Nat.mod_eq_of_lt (by omega),ADDF]
def POP (X:Nat):Nat:=DSUM 1 64 X
theorem zfr:MSK 1 32=6148914691236517205:=by decide
theorem zfs:MSK 2 16=3689348814741910323:=by decide
theorem zft:MSK 4 8=1085102592571150095:=by decide
theorem z4C {k:Nat} (hk:1≤k):∀ (n x:Nat),ADDF k n x<2 ^ (2*k*n)
  | 0,_=>by simp [ADDF]
  | n+1,x=>by
    have h1:=z4C hk n (x / 2 ^ (2*k))
    have h2:=z62 hk x
    rw [ADDF,show 2*k*(n+1)=2*k*n+2*k by rw [Nat.mul_add,Nat.mul_one],Nat.pow_add]
    have h3:2 ^ (2*k)*ADDF k n (x / 2 ^ (2*k))≤2 ^ (2*k)*(2 ^ (2*k*n) - 1):=Nat.mul_le_mul_left _ (by omega)
    rw [Nat.mul_sub,Nat.mul_one,Nat.mul_comm _ (2 ^ (2*k*n))] at h3
    have h4:2 ^ (2*k)≤2 ^ (2*k*n)*2 ^ (2*k):=Nat.le_mul_of_pos_left _ (Nat.two_pow_pos _)
    omega
theorem z63 {a b q:Nat} (h:b<a):(b+a*q) / a=q:=by rw [Nat.add_mul_div_left _ _ (by omega),Nat.div_eq_of_lt h,Nat.zero_add]
theorem zeX {d0 d1 d2 x R1 R2 R3:Nat} (e0:x=d0+256*R1) (e1:R1=d1+256*R2) (e2:R2=d2+256*R3):x+R1=(d0+d1+256*(d1+d2))+65536*(R2+R3):=by
  subst e0 e1 e2
  omega
theorem zeY {d0 d1 d2 d3 d4 d5 d6 d7 x R1 R2 R3 R4 R5 R6:Nat} (e0:x=d0+256*R1) (e1:R1=d1+256*R2) (e2:R2=d2+256*R3) (e3:R3=d3+256*R4) (e4:R4=d4+256*R5) (e5:R5=d5+256*R6) (e6:R6=d6+256*d7):
    x+R1+(R2+R3)=(d0+d1+d2+d3+256*(d1+d2+d3+d4)+65536*(d2+d3+d4+d5)+16777216*(d3+d4+d5+d6))+4294967296*(R4+R5+R6+d7):=by
  subst e0 e1 e2 e3 e4 e5 e6
  omega
theorem zeZ {d0 d1 d2 d3 d4 d5 d6 d7 x R1 R2 R3 R4 R5 R6:Nat} (e0:x=d0+256*R1) (e1:R1=d1+256*R2) (e2:R2=d2+256*R3) (e3:R3=d3+256*R4) (e4:R4=d4+256*R5) (e5:R5=d5+256*R6) (e6:R6=d6+256*d7):
    x+R1+(R2+R3)+(R4+R5+R6+d7)=(d0+(d1+(d2+(d3+(d4+(d5+(d6+d7)))))))+128*(2*(R1+R2+R3+R4+R5+R6+d7)):=by
  rw [e0]
  have h:R1+(R2+R3)+(R4+R5+R6+d7)=(d1+256*R2)+((d2+256*R3)+(d3+256*R4))+((d4+256*R5)+(d5+256*R6)+(d6+256*d7)+d7):=by
    rw [← e1,← e2,← e3,← e4,← e5,← e6]
  clear e0 e1 e2 e3 e4 e5 e6
  omega
theorem z3q {d7 d6 R6:Nat} {B:Nat} (e6:R6=d6+256*d7) (h6:d6≤8) (h7:d7≤B):R6≤8+256*B:=by
  subst e6
  omega
theorem zcp {d0 d1 d2:Nat} (h0:d0≤8) (h1:d1≤8) (h2:d2≤8):d0+d1+256*(d1+d2)<65536:=by omega
theorem zcq {d0 d1 d2 d3 d4 d5 d6:Nat} (h0:d0≤8) (h1:d1≤8) (h2:d2≤8) (h3:d3≤8) (h4:d4≤8) (h5:d5≤8) (h6:d6≤8):d0+d1+d2+d3+256*(d1+d2+d3+d4)+65536*(d2+d3+d4+d5)+16777216*(d3+d4+d5+d6)<4294967296:=by omega
theorem zcr {d0 d1 d2 d3 d4 d5 d6 d7:Nat} (h0:d0≤8) (h1:d1≤8) (h2:d2≤8) (h3:d3≤8) (h4:d4≤8) (h5:d5≤8) (h6:d6≤8) (h7:d7≤8):d0+(d1+(d2+(d3+(d4+(d5+(d6+d7))))))<128:=by omega
theorem zdR {x R1 R2 R3 R4 R5 R6 d7:Nat} (h7:d7≤8) (b6:R6≤8+256*8) (b5:R5≤8+256*(8+256*8)) (b4:R4≤8+256*(8+256*(8+256*8))) (b3:R3≤8+256*(8+256*(8+256*(8+256*8)))) (b2:R2≤8+256*(8+256*(8+256*(8+256*(8+256*8))))) (b1:R1≤8+256*(8+256*(8+256*(8+256*(8+256*(8+256*8)))))) (b0:x≤8+256*(8+256*(8+256*(8+256*(8+256*(8+256*(8+256*8))))))):
    x+R1+(R2+R3)+(R4+R5+R6+d7)<2 ^ 64:=by omega
theorem z9U (d0 d1 d2 d3 d4 d5 d6 d7:Nat) (h0:d0≤8) (h1:d1≤8) (h2:d2≤8) (h3:d3≤8) (h4:d4≤8) (h5:d5≤8) (h6:d6≤8) (h7:d7≤8) (x R1 R2 R3 R4 R5 R6:Nat)
    (e0:x=d0+256*R1) (e1:R1=d1+256*R2) (e2:R2=d2+256*R3) (e3:R3=d3+256*R4) (e4:R4=d4+256*R5) (e5:R5=d5+256*R6) (e6:R6=d6+256*d7):
    (x+x / 256+(x+x / 256) / 65536+(x+x / 256+(x+x / 256) / 65536) / 4294967296) % 128=d0+(d1+(d2+(d3+(d4+(d5+(d6+d7))))))∧x+x / 256+(x+x / 256) / 65536+(x+x / 256+(x+x / 256) / 65536) / 4294967296<2 ^ 64:=by
  have q1:x / 256=R1:=by rw [e0];exact z63 (Nat.lt_of_le_of_lt h0 (by decide))
  have q2:(x+R1) / 65536=R2+R3:=by rw [zeX e0 e1 e2];exact z63 (zcp h0 h1 h2)
  have q3:(x+R1+(R2+R3)) / 4294967296=R4+R5+R6+d7:=by rw [zeY e0 e1 e2 e3 e4 e5 e6];exact z63 (zcq h0 h1 h2 h3 h4 h5 h6)
  rw [q1,q2,q3]
  have b6:=z3q e6 h6 h7
  have b5:=z3q e5 h5 b6
  have b4:=z3q e4 h4 b5
  have b3:=z3q e3 h3 b4
  have b2:=z3q e2 h2 b3
  have b1:=z3q e1 h1 b2
  have b0:=z3q e0 h0 b1
  refine ⟨?_,zdR h7 b6 b5 b4 b3 b2 b1 b0⟩
  rw [zeZ e0 e1 e2 e3 e4 e5 e6,Nat.add_mul_mod_self_left,Nat.mod_eq_of_lt (zcr h0 h1 h2 h3 h4 h5 h6 h7)]
theorem zcs {x:Nat} (hx:x<2 ^ 64) (h:DLE 8 8 8 x):(x+x / 256+(x+x / 256) / 65536+(x+x / 256+(x+x / 256) / 65536) / 4294967296) % 128=DSUM 8 8 x∧x+x / 256+(x+x / 256) / 65536+(x+x / 256+(x+x / 256) / 65536) / 4294967296<2 ^ 64:=by
  obtain ⟨h0,h1,h2,h3,h4,h5,h6,h7,_⟩:=h
  simp only [DSUM,Nat.add_zero]
  simp only [Nat.reducePow] at *
  have l7:x / 256 / 256 / 256 / 256 / 256 / 256 / 256<256:=by
    have e:x / 256 / 256 / 256 / 256 / 256 / 256 / 256=x / 72057594037927936:=by simp only [Nat.div_div_eq_div_mul]
    rw [e]
    exact Nat.div_lt_of_lt_mul hx
  rw [Nat.mod_eq_of_lt l7] at h7 ⊢
  exact z9U _ _ _ _ _ _ _ _ h0 h1 h2 h3 h4 h5 h6 h7 x (x / 256) (x / 256 / 256) (x / 256 / 256 / 256) (x / 256 / 256 / 256 / 256) (x / 256 / 256 / 256 / 256 / 256) (x / 256 / 256 / 256 / 256 / 256 / 256)
    (Nat.mod_add_div _ _).symm (Nat.mod_add_div _ _).symm (Nat.mod_add_div _ _).symm (Nat.mod_add_div _ _).symm (Nat.mod_add_div _ _).symm (Nat.mod_add_div _ _).symm (Nat.mod_add_div _ _).symm
def X1 (X:Nat):Nat:=(X / 2 &&& 6148914691236517205)+(X &&& 6148914691236517205)
def X2 (X:Nat):Nat:=(X1 X / 4 &&& 3689348814741910323)+(X1 X &&& 3689348814741910323)
def X3 (X:Nat):Nat:=(X2 X / 16+X2 X) &&& 1085102592571150095
theorem z9V (X:Nat):X1 X=ADDF 1 32 X:=by
  have:=z61 1 32 X
  rw [zfr] at this
  exact this
theorem z9W (X:Nat):X2 X=ADDF 2 16 (X1 X):=by
  have:=z61 2 16 (X1 X)
  rw [zfs] at this
  exact this
theorem z9X (X:Nat):DLE 4 4 16 (X2 X):=by
  rw [z9W]
  refine z3p (k:=2) (D:=2) (by decide) 16 _ ?_
  rw [z9V]
  exact z3p (k:=1) (D:=1) (by decide) 32 _ (z7d 64 X)
theorem zdO (X:Nat):X2 X<2 ^ 64:=by
  rw [z9W]
  exact z4C (k:=2) (by decide) 16 _
theorem z9Y (X:Nat):X3 X=ADDF 4 8 (X2 X):=by
  have:=z6s (k:=4) (D:=4) (by decide) (by decide) 8 (X2 X) (zdO X) (z9X X)
  rw [zft] at this
  exact this
theorem zfu (X:Nat):DLE 8 8 8 (X3 X):=by
  rw [z9Y]
  exact z3p (k:=4) (D:=4) (by decide) 8 _ (z9X X)
theorem zfv (X:Nat):X3 X<2 ^ 64:=by
  rw [z9Y]
  exact z4C (k:=4) (by decide) 8 _
theorem zf0 (X:Nat):DSUM 8 8 (X3 X)=POP X:=by
  rw [z9Y]
  have a:=z35 (k:=4) (by decide) 8 (X2 X)
  have b:=z35 (k:=2) (by decide) 16 (X1 X)
  have c:=z35 (k:=1) (by decide) 32 X
  rw [← z9W] at b
  rw [← z9V] at c
  exact a.trans (b.trans c)
end Go.Proofs.YthdpkaiieomdoaaGreatDoor

namespace Go.Proofs.YthdpkaiieomdoaaGreatDoor
def PCF:Nat→Nat→Nat
  | 0,_=>0
  | f+1,n=>n % 2+PCF f (n / 2)
def PC (n:Nat):Nat:=PCF n n
theorem z2N:∀ f,PCF f 0=0
  | 0=>rfl
  | f+1=>by
    show 0 % 2+PCF f (0 / 2)=0
    rw [show 0 / 2=0 from rfl,z2N f]
theorem z5d:∀ f g n,n≤f→n≤g→PCF f n=PCF g n
  | 0,g,n,h,_=>by
    have h0:n=0:=by omega
    subst h0
    rw [z2N,z2N]
  | f+1,0,n,_,h=>by
    have h0:n=0:=by omega
    subst h0
    rw [z2N,z2N]
  | f+1,g+1,n,h1,h2=>by
    show n % 2+PCF f (n / 2)=n % 2+PCF g (n / 2)
    rw [z5d f g (n / 2) (by omega) (by omega)]
theorem z10:PC 0=0:=rfl
theorem z0C (n:Nat):PC n=n % 2+PC (n / 2):=by
  show PCF n n=n % 2+PCF (n / 2) (n / 2)
  rw [z5d n (n+1) n (Nat.le_refl n) (Nat.le_succ n)]
  show n % 2+PCF n (n / 2)=n % 2+PCF (n / 2) (n / 2)
  rw [z5d n (n / 2) (n / 2) (by omega) (Nat.le_refl _)]
theorem z64 (m:Nat):PC (2*m)=PC m:=by
  rw [z0C,show 2*m % 2=0 by omega,show 2*m / 2=m by omega,Nat.zero_add]
theorem z42 (m:Nat):PC (2*m+1)=PC m+1:=by
  rw [z0C,show (2*m+1) % 2=1 by omega,show (2*m+1) / 2=m by omega,Nat.add_comm]
theorem zb2:PC 1=1:=by rw [show (1:Nat)=2*0+1 from rfl,z42,z10]
theorem zfw (n:Nat):PC n≤n:=by
  induction n using Nat.strongRecOn with
  | _ n ih=>
    by_cases h:n=0
    · subst h
      rw [z10]
      omega
    · have:=ih (n / 2) (by omega)
      rw [z0C]
      omega
theorem z5y (h:Nat):∀ k r,r<2 ^ h→PC (k*2 ^ h+r)=PC k+PC r:=by
  induction h with
  | zero=>
    intro k r hr
    have:r=0:=by simpa using hr
    subst this
    rw [z10]
    simp
  | succ h ih=>
    intro k r hr
    rw [Nat.pow_succ] at hr
    have e:k*2 ^ (h+1)+r=2*(k*2 ^ h+r / 2)+r % 2:=by
      rw [Nat.pow_succ,← Nat.mul_assoc]
      omega
    have hr2:r / 2<2 ^ h:=by omega
    rcases Nat.mod_two_eq_zero_or_one r with h0 | h0
    · rw [e,h0,Nat.add_zero,z64,ih _ _ hr2,z0C r,h0]
      omega
    · rw [e,h0,z42,ih _ _ hr2,z0C r,h0]
      omega
theorem z3r (h k:Nat):PC (k*2 ^ h)=PC k:=by
  have:=z5y h k 0 (Nat.two_pow_pos h)
  rw [z10] at this
  exact this
theorem zf1 (h:Nat):PC (2 ^ h)=1:=by
  have:=z3r h 1
  rw [Nat.one_mul,zb2] at this
  exact this
theorem z9j:∀ h,PC (2 ^ h - 1)=h
  | 0=>z10
  | h+1=>by
    have hp:=Nat.two_pow_pos h
    rw [show 2 ^ (h+1) - 1=2*(2 ^ h - 1)+1 by rw [Nat.pow_succ];omega,z42,z9j h]
theorem zdS (n:Nat):PC (n+1)≤PC n+1:=by
  induction n using Nat.strongRecOn with
  | _ n ih=>
    rcases Nat.mod_two_eq_zero_or_one n with h | h
    · rw [z0C (n+1),z0C n,show (n+1) / 2=n / 2 by omega]
      omega
    · have:=ih (n / 2) (by omega)
      rw [z0C (n+1),z0C n,show (n+1) / 2=n / 2+1 by omega]
      omega
theorem z13 (h:Nat):∀ n,n<2 ^ h→PC n≤h:=by
  induction h with
  | zero=>
    intro n hn
    have:n=0:=by simpa using hn
    subst this
    rw [z10]
    omega
  | succ h ih=>
    intro n hn
    rw [Nat.pow_succ] at hn
    have:=ih (n / 2) (by omega)
    rw [z0C]
    omega
theorem z9k:∀ k X,X<2 ^ k→DSUM 1 k X=PC X
  | 0,X,h=>by
    have:X=0:=by simpa using h
    subst this
    rw [z10]
    rfl
  | k+1,X,h=>by
    rw [Nat.pow_succ] at h
    rw [z0C,← z9k k (X / 2) (by omega)]
    simp [DSUM]
theorem zb3 {X:Nat} (h:X<2 ^ 64):POP X=PC X:=z9k 64 X h
def z0r (n:Nat):Nat:=2*n - PC n
theorem z14 (n:Nat):z0r n+PC n=2*n:=by
  have:=zfw n
  unfold z0r
  omega
theorem z3s (n:Nat):z0r n=n+z0r (n / 2):=by
  have h1:=z14 n
  have h2:=z14 (n / 2)
  rw [z0C] at h1
  omega
theorem z2x:z0r 0=0:=by unfold z0r;rw [z10]
theorem zct {n m:Nat} (h:n<m):z0r n<z0r m:=by
  induction m with
  | zero=>omega
  | succ m ih=>
    have h1:=z14 m
    have h2:=z14 (m+1)
    have h3:=zdS m
    rcases Nat.lt_or_ge n m with h4 | h4
    · have:=ih h4
      omega
    · obtain rfl:n=m:=by omega
      omega
theorem zcu {n m:Nat} (h:n≤m):z0r n≤z0r m:=by
  rcases Nat.lt_or_ge n m with h1 | h1
  · exact Nat.le_of_lt (zct h1)
  · obtain rfl:n=m:=by omega
    exact Nat.le_refl _
theorem zcv (n:Nat):n≤z0r n:=by
  rw [z3s]
  omega
def TREE (h:Nat):Nat:=2 ^ (h+1) - 1
def PLC (h k:Nat):Nat:=z0r (k*2 ^ h)+(2 ^ (h+1) - 2)
theorem z1L (h:Nat):2≤2 ^ (h+1):=by
  have:=Nat.two_pow_pos h
  rw [Nat.pow_succ]
  omega
theorem z1M (h k:Nat):PLC h k+2+PC k=2 ^ (h+1)*(k+1):=by
  have h1:=z14 (k*2 ^ h)
  have h2:=z1L h
  rw [z3r] at h1
  unfold PLC
  rw [Nat.mul_add,Nat.mul_one,show 2 ^ (h+1)*k=2*(k*2 ^ h) by rw [Nat.pow_succ,Nat.mul_comm (2 ^ h) 2,Nat.mul_assoc,Nat.mul_comm k]]
  omega
theorem zcw (k:Nat):PLC 0 k=z0r k:=by
  unfold PLC
  simp
theorem zdT (h k:Nat):1≤(k+1)*2 ^ h:=Nat.mul_pos (by omega) (Nat.two_pow_pos h)
theorem zcx (h k:Nat):z0r ((k+1)*2 ^ h - 1)+h=PLC h k:=by
  have hp:=Nat.two_pow_pos h
  have e:(k+1)*2 ^ h - 1=k*2 ^ h+(2 ^ h - 1):=by
    rw [Nat.add_mul,Nat.one_mul]
    omega
  have h1:=z14 (k*2 ^ h+(2 ^ h - 1))
  rw [z5y h k _ (by omega),z9j] at h1
  have h2:=z1M h k
  rw [e]
  rw [Nat.mul_add,Nat.mul_one,show 2 ^ (h+1)*k=2*(k*2 ^ h) by rw [Nat.pow_succ,Nat.mul_comm (2 ^ h) 2,Nat.mul_assoc,Nat.mul_comm k],Nat.pow_succ] at h2
  omega
theorem z8r (h m:Nat):PLC (h+1) m=PLC h (2*m)+2 ^ (h+1):=by
  have h1:=z1M (h+1) m
  have h2:=z1M h (2*m)
  rw [z64] at h2
  have e:2 ^ (h+1+1)*(m+1)=2 ^ (h+1)*(2*m+1)+2 ^ (h+1):=by
    rw [Nat.pow_succ 2 (h+1)]
    generalize 2 ^ (h+1)=x
    rw [Nat.mul_assoc,← Nat.mul_succ]
    congr 1
  omega
theorem z43 (h m:Nat):PLC (h+1) m=PLC h (2*m+1)+1:=by
  have h1:=z1M (h+1) m
  have h2:=z1M h (2*m+1)
  rw [z42] at h2
  have e:2 ^ (h+1+1)*(m+1)=2 ^ (h+1)*(2*m+1+1):=by
    rw [Nat.pow_succ 2 (h+1)]
    generalize 2 ^ (h+1)=x
    rw [Nat.mul_assoc]
    congr 1
  omega
theorem zdU (h m:Nat):PLC h (2*m+1)=PLC h (2*m)+TREE h:=by
  have h1:=z8r h m
  have h2:=z43 h m
  have h3:=z1L h
  unfold TREE
  omega
theorem z7e {h H k:Nat} (hh:h≤H) (hk:k<2 ^ (H - h)):PLC h (2 ^ (H - h)+k)=TREE H+PLC h k:=by
  have h1:=z1M h (2 ^ (H - h)+k)
  have h2:=z1M h k
  have h3:=z5y (H - h) 1 k hk
  rw [Nat.one_mul,zb2] at h3
  have e:2 ^ (h+1)*(2 ^ (H - h)+k+1)=2 ^ (H+1)+2 ^ (h+1)*(k+1):=by
    rw [Nat.add_assoc,Nat.mul_add,← Nat.pow_add,show h+1+(H - h)=H+1 by omega]
  have h4:=z1L H
  unfold TREE
  omega
theorem z7f {h H k:Nat} (hh:h≤H) (hk:k<2 ^ (H - h)):PLC h k+2≤2 ^ (H+1):=by
  have h1:=z1M h k
  have e:2 ^ (h+1)*(k+1)≤2 ^ (h+1)*2 ^ (H - h):=Nat.mul_le_mul_left _ hk
  rw [← Nat.pow_add,show h+1+(H - h)=H+1 by omega] at e
  omega
theorem zdV (H:Nat):∀ h k h' k',h≤H→k<2 ^ (H - h)→h'≤H→k'<2 ^ (H - h')→PLC h k=PLC h' k'→h=h'∧k=k':=by
  induction H with
  | zero=>
    intro h k h' k' a b c d _
    obtain rfl:h=0:=by omega
    obtain rfl:h'=0:=by omega
    simp at b d
    omega
  | succ H ih=>
    have top:∀ h k,h≤H+1→k<2 ^ (H+1 - h)→(h=H+1∧k=0∧PLC h k+2=2 ^ (H+2))∨(h≤H∧k<2 ^ (H - h)∧PLC h k+2≤2 ^ (H+1))∨(h≤H∧∃ q,k=2 ^ (H - h)+q∧q<2 ^ (H - h)∧PLC h k=TREE H+PLC h q∧PLC h q+2≤2 ^ (H+1)):=by
      intro h k a b
      rcases Nat.lt_or_ge H h with h1 | h1
      · obtain rfl:h=H+1:=by omega
        have hk:k=0:=by simpa using b
        subst hk
        have:=z1M (H+1) 0
        rw [z10] at this
        exact .inl ⟨rfl,rfl,by simpa using this⟩
      · rcases Nat.lt_or_ge k (2 ^ (H - h)) with h2 | h2
        · exact .inr (.inl ⟨h1,h2,z7f h1 h2⟩)
        · have hq:k - 2 ^ (H - h)<2 ^ (H - h):=by
            rw [show H+1 - h=H - h+1 by omega,Nat.pow_succ] at b
            omega
          refine .inr (.inr ⟨h1,k - 2 ^ (H - h),by omega,hq,?_,z7f h1 hq⟩)
          have:=z7e h1 hq
          rw [show 2 ^ (H - h)+(k - 2 ^ (H - h))=k by omega] at this
          exact this
    have hp:=z1L H
    have hpp:2 ^ (H+2)=2*2 ^ (H+1):=by rw [Nat.pow_succ 2 (H+1),Nat.mul_comm]
    intro h k h' k' a b c d e
    unfold TREE at top
    rcases top h k a b with ⟨r1,r2,r3⟩ | ⟨r1,r2,r3⟩ | ⟨r1,q,r2,r3,r4,r5⟩ <;> rcases top h' k' c d with ⟨s1,s2,s3⟩ | ⟨s1,s2,s3⟩ | ⟨s1,q',s2,s3,s4,s5⟩
    · omega
    · omega
    · omega
    · omega
    · exact ih h k h' k' r1 r2 s1 s2 e
    · omega
    · omega
    · omega
    · obtain ⟨rfl,rfl⟩:=ih h q h' q' r1 r3 s1 s3 (by omega)
      exact ⟨rfl,by omega⟩
theorem zdW (H:Nat):∀ p,p+2≤2 ^ (H+1)→∃ h k,h≤H∧k<2 ^ (H - h)∧p=PLC h k:=by
  induction H with
  | zero=>
    intro p hp
    have:p=0:=by simpa using hp
    subst this
    exact ⟨0,0,by omega,by simp,by rw [zcw,z2x]⟩
  | succ H ih=>
    intro p hp
    have hpp:2 ^ (H+2)=2*2 ^ (H+1):=by rw [Nat.pow_succ 2 (H+1),Nat.mul_comm]
    have h2:=z1L H
    by_cases h1:p+2=2 ^ (H+2)
    · refine ⟨H+1,0,Nat.le_refl _,by simp,?_⟩
      have:=z1M (H+1) 0
      rw [z10] at this
      simp only [Nat.zero_add,Nat.mul_one,Nat.add_zero] at this
      omega
    · by_cases h3:p+2≤2 ^ (H+1)
      · obtain ⟨h,k,a,b,c⟩:=ih p h3
        exact ⟨h,k,by omega,Nat.lt_of_lt_of_le b (Nat.pow_le_pow_right (by decide) (by omega)),c⟩
      · obtain ⟨h,k,a,b,c⟩:=ih (p - TREE H) (by unfold TREE;rw [show H+1+1=H+2 from rfl] at hp;omega)
        refine ⟨h,2 ^ (H - h)+k,by omega,?_,?_⟩
        · rw [show H+1 - h=H - h+1 by omega,Nat.pow_succ]
          omega
        · rw [z7e a b,← c]
          unfold TREE
          omega
def Node (h k:Nat):Prop:=h≤62∧k<2 ^ (62 - h)
theorem Node.one {h k h' k':Nat} (a:Node h k) (b:Node h' k') (e:PLC h k=PLC h' k'):h=h'∧k=k':=zdV 62 h k h' k' a.1 a.2 b.1 b.2 e
theorem Node.lt {h k:Nat} (a:Node h k):PLC h k<9223372036854775807:=by
  have:=z7f a.1 a.2
  omega
theorem Node.of {p:Nat} (hp:p<9223372036854775807):∃ h k,Node h k∧p=PLC h k:=by
  obtain ⟨h,k,a,b,c⟩:=zdW 62 p (by omega)
  exact ⟨h,k,⟨a,b⟩,c⟩
theorem Node.index_lt {h k:Nat} (a:Node h k):k<2 ^ 62:=Nat.lt_of_lt_of_le a.2 (Nat.pow_le_pow_right (by decide) (by omega))
theorem Node.span {h k:Nat} (a:Node h k):(k+1)*2 ^ h≤2 ^ 62:=by
  have:(k+1)*2 ^ h≤2 ^ (62 - h)*2 ^ h:=Nat.mul_le_mul_right _ a.2
  rw [← Nat.pow_add,Nat.sub_add_cancel a.1] at this
  exact this
theorem z9Z:z0r 4611686018427387904=9223372036854775807:=by
  have h:=z14 (2 ^ 62)
  rw [zf1] at h
  have e:(4611686018427387904:Nat)=2 ^ 62:=by decide
  rw [e]
  omega
end Go.Proofs.YthdpkaiieomdoaaGreatDoor

namespace Go.Proofs.YthdpkaiieomdoaaGreatDoor
open Go.RowKit
theorem zdX (x n:Int) (w:World):Calls Tryz.prog 182 #[.int .u64 x,.int .i64 n] w fun e w'=>e=.returned (.int .u64 (if n<0 then x / 2 ^ min (IntKind.u64.wrap (-IntKind.u64.wrap n)).toNat 64 else IntKind.u64.wrap (x*2 ^ min (IntKind.u64.wrap n).toNat 64)))∧w=w':=by
  by_cases h:n<0
  · rw [if_pos h]
    go_enter Tryz.func182,Tryz.ntmps182
    go_wp2
    go_ret
    exact ⟨rfl,rfl⟩
  · rw [if_neg h]
    go_enter Tryz.func182,Tryz.ntmps182
    go_wp2
    go_ret
    exact ⟨rfl,rfl⟩
theorem z65 (x n:Int) (w:World):Calls Tryz.prog 183 #[.int .u64 x,.int .i64 n] w fun e w'=>e=.returned (.int .u64 (if n<0 then IntKind.u64.wrap (x*2 ^ min (IntKind.u64.wrap (-IntKind.u64.wrap n)).toNat 64) else x / 2 ^ min (IntKind.u64.wrap n).toNat 64))∧w=w':=by
  by_cases h:n<0
  · rw [if_pos h]
    go_enter Tryz.func183,Tryz.ntmps183
    go_wp2
    go_ret
    exact ⟨rfl,rfl⟩
  · rw [if_neg h]
    go_enter Tryz.func183,Tryz.ntmps183
    go_wp2
    go_ret
    exact ⟨rfl,rfl⟩
theorem zcy (n:Int) (w:World):Calls Tryz.prog 180 #[.int .i64 n] w fun e w'=>e=.returned (.int .u64 (if n≤0 then 0 else IntKind.u64.wrap (IntKind.u64.wrap (1*2 ^ min (IntKind.u64.wrap n).toNat 64) - 1)))∧w=w':=by
  by_cases h:n≤0
  · rw [if_pos h]
    go_enter Tryz.func180,Tryz.ntmps180
    go_wp2
    go_ret
    exact ⟨rfl,rfl⟩
  · rw [if_neg h]
    go_enter Tryz.func180,Tryz.ntmps180
    go_wp2
    go_ret
    exact ⟨rfl,rfl⟩
theorem z7g (X:Nat) (n:Int) (hX:X<2 ^ 64) (h0 : -(2 ^ 63)≤n) (h1:n<2 ^ 63) (w:World):Calls Tryz.prog 182 #[.int .u64 (X:Int),.int .i64 n] w fun e w'=>e=.returned (.int .u64 ((SHL X n:Nat):Int))∧w=w':=
  (zdX X n w).mono fun e w' h=>by rw [z9R hX h0 h1] at h;exact h
theorem z2l (X:Nat) (n:Int) (hX:X<2 ^ 64) (h0 : -(2 ^ 63)≤n) (h1:n<2 ^ 63) (w:World):Calls Tryz.prog 183 #[.int .u64 (X:Int),.int .i64 n] w fun e w'=>e=.returned (.int .u64 ((SHR X n:Nat):Int))∧w=w':=
  (z65 X n w).mono fun e w' h=>by rw [z5x hX h0 h1] at h;exact h
theorem zdY (n:Int) (h1:n<2 ^ 63) (w:World):Calls Tryz.prog 180 #[.int .i64 n] w fun e w'=>e=.returned (.int .u64 ((MASK n:Nat):Int))∧w=w':=
  (zcy n w).mono fun e w' h=>by rw [z8p h1] at h;exact h
end Go.Proofs.YthdpkaiieomdoaaGreatDoor

namespace Go.Proofs.YthdpkaiieomdoaaGreatDoor
open Go.RowKit
theorem zcz (x x1 x2 x3 x4 x5 x6 r:Int) (w:World)
    (e1:IntKind.u64.wrap (bits .and .u64 (x / 2) 6148914691236517205+bits .and .u64 x 6148914691236517205)=x1)
    (e2:IntKind.u64.wrap (bits .and .u64 (x1 / 4) 3689348814741910323+bits .and .u64 x1 3689348814741910323)=x2)
    (e3:bits .and .u64 (IntKind.u64.wrap (x2 / 16+x2)) 1085102592571150095=x3)
    (e4:IntKind.u64.wrap (x3+x3 / 256)=x4) (e5:IntKind.u64.wrap (x4+x4 / 65536)=x5) (e6:IntKind.u64.wrap (x5+x5 / 4294967296)=x6)
    (e7:bits .and .i64 (wrap64 x6) 127=r):
    Calls Tryz.prog 71 #[.int .u64 x] w fun e w'=>e=.returned (.int .i64 r)∧w=w':=by
  go_enter Tryz.func71,Tryz.ntmps71
  go_wp2
  go_ret
  exact ⟨rfl,rfl⟩
theorem z26 {a:Nat} {A:Int} (e:A=(a:Int)) (h:a<2 ^ 64):IntKind.u64.wrap A=(a:Int):=by rw [z09,e];omega
theorem z3h {a c:Nat} {A C:Int} (eA:A=(a:Int)) (eC:C=(c:Int)) (ha:a<2 ^ 64) (hc:c<2 ^ 64):bits .and .u64 A C=((a &&& c:Nat):Int):=by
  subst eA eC
  exact z41 ha hc
theorem z9l {w D:Nat}:∀ (n x:Nat),DLE w D (n+1) x→x / 2 ^ (w*n) % 2 ^ w≤D
  | 0,x,h=>by simpa using h.1
  | n+1,x,h=>by
    have:=z9l n (x / 2 ^ w) h.2
    rw [Nat.div_div_eq_div_mul,← Nat.pow_add,show w+w*n=w*(n+1) by rw [Nat.mul_add,Nat.mul_one,Nat.add_comm]] at this
    exact this
theorem zdZ (y p:Nat) (h:y % 128=p):bits .and .i64 (wrap64 (y:Int)) 127=(p:Int):=by
  rw [zeV]
  unfold wrap64
  omega
theorem z2O (X:Nat) (hX:X<2 ^ 64) (w:World):Calls Tryz.prog 71 #[.int .u64 (X:Int)] w fun e w'=>e=.returned (.int .i64 ((POP X:Nat):Int))∧w=w':=by
  have h1:X1 X<2 ^ 64:=by rw [z9V];exact z4C (k:=1) (by decide) 32 _
  have h2:=zdO X
  have h3:=zfv X
  have h16:X2 X / 16+X2 X<2 ^ 64:=by
    have ht:=z9l 15 (X2 X) (z9X X)
    simp only [Nat.reducePow,Nat.reduceMul] at ht h2 ⊢
    generalize X2 X=y at *
    omega
  have hl:=zcs h3 (zfu X)
  rw [zf0] at hl
  have hlt:=hl.2
  have hle4:X3 X+X3 X / 256<2 ^ 64:=Nat.lt_of_le_of_lt (by generalize X3 X+X3 X / 256=y;omega) hlt
  have hle5:X3 X+X3 X / 256+(X3 X+X3 X / 256) / 65536<2 ^ 64:=Nat.lt_of_le_of_lt (by generalize X3 X+X3 X / 256+(X3 X+X3 X / 256) / 65536=y;omega) hlt
  refine zcz X (X1 X:Nat) (X2 X:Nat) (X3 X:Nat) (X3 X+X3 X / 256:Nat) (X3 X+X3 X / 256+(X3 X+X3 X / 256) / 65536:Nat) (X3 X+X3 X / 256+(X3 X+X3 X / 256) / 65536+(X3 X+X3 X / 256+(X3 X+X3 X / 256) / 65536) / 4294967296:Nat) _ w ?_ ?_ ?_ ?_ ?_ ?_ ?_
  · have a1:bits .and .u64 ((X:Int) / 2) 6148914691236517205=((X / 2 &&& 6148914691236517205:Nat):Int):=z3h (by simp) rfl (by omega) (by decide)
    have a2:bits .and .u64 (X:Int) 6148914691236517205=((X &&& 6148914691236517205:Nat):Int):=z3h rfl rfl hX (by decide)
    rw [a1,a2]
    exact z26 (by unfold X1;rw [Int.natCast_add]) h1
  · have a1:bits .and .u64 (((X1 X:Nat):Int) / 4) 3689348814741910323=((X1 X / 4 &&& 3689348814741910323:Nat):Int):=z3h (by simp) rfl (by omega) (by decide)
    have a2:bits .and .u64 ((X1 X:Nat):Int) 3689348814741910323=((X1 X &&& 3689348814741910323:Nat):Int):=z3h rfl rfl h1 (by decide)
    rw [a1,a2]
    exact z26 (by unfold X2;rw [Int.natCast_add]) h2
  · have a0:IntKind.u64.wrap (((X2 X:Nat):Int) / 16+((X2 X:Nat):Int))=((X2 X / 16+X2 X:Nat):Int):=z26 (by simp) h16
    rw [a0]
    exact z3h rfl rfl h16 (by decide)
  · exact z26 (by simp) hle4
  · exact z26 (by simp) hle5
  · exact z26 (by simp) hlt
  · exact zdZ _ _ hl.1
theorem z7h (x r:Int) (w:World) (c:∀ w,Calls Tryz.prog 71 #[.int .u64 x] w fun e w'=>e=.returned (.int .i64 r)∧w=w'):
    Calls Tryz.prog 138 #[.int .u64 x] w fun e w'=>e=.returned (.int .i64 r)∧w=w':=by
  go_enter Tryz.func138,Tryz.ntmps138
  go_wp2_with fail
  refine (c _).mono ?_
  rintro e w' ⟨rfl,rfl⟩
  go_wp2
  go_ret
  exact ⟨rfl,rfl⟩
theorem ze0 (X:Nat) (hX:X<2 ^ 64) (w:World):Calls Tryz.prog 138 #[.int .u64 (X:Int)] w fun e w'=>e=.returned (.int .i64 ((POP X:Nat):Int))∧w=w':=
  z7h X _ w (fun w=>z2O X hX w)
end Go.Proofs.YthdpkaiieomdoaaGreatDoor

namespace Go.Proofs.YthdpkaiieomdoaaGreatDoor
open Go.RowKit
theorem zb4:∀ X:Nat,X≠0→∃ t q,X=2 ^ t*(2*q+1):=fun X=>by
  induction X using Nat.strongRecOn with
  | _ X ih=>
    intro h
    by_cases ho:X % 2=1
    · exact ⟨0,X / 2,by omega⟩
    · obtain ⟨t,q,e⟩:=ih (X / 2) (by omega) (by omega)
      refine ⟨t+1,q,?_⟩
      rw [Nat.pow_succ,Nat.mul_comm (2 ^ t) 2,Nat.mul_assoc,← e]
      omega
theorem ze1 {q s:Nat} (h:2*q+1<2 ^ s):(2*q+1) &&& (2 ^ s - (2*q+1))=1:=by
  apply Nat.eq_of_testBit_eq
  intro i
  rw [Nat.testBit_and,Nat.testBit_two_pow_sub_succ (by omega)]
  cases i with
  | zero=>
    have hs:0<s:=by
      rcases Nat.eq_zero_or_pos s with h0 | h0
      · subst h0
        simp at h
      · exact h0
    simp [Nat.testBit_zero,hs]
  | succ i=>
    rw [Nat.testBit_succ,Nat.testBit_succ,Nat.testBit_succ,show (2*q+1) / 2=q by omega,show 2*q / 2=q by omega]
    simp
    intro h1 _
    exact h1
theorem z9m {X t q:Nat} (hX:X<2 ^ 64) (e:X=2 ^ t*(2*q+1)):X &&& (2 ^ 64 - X)=2 ^ t∧t<64:=by
  have hp:=Nat.two_pow_pos t
  have ht:t<64:=by
    rcases Nat.lt_or_ge t 64 with h | h
    · exact h
    · have h1:2 ^ 64≤2 ^ t:=Nat.pow_le_pow_right (by decide) h
      have h2:2 ^ t*1≤2 ^ t*(2*q+1):=Nat.mul_le_mul_left _ (by omega)
      omega
  have h64:(2:Nat) ^ 64=2 ^ t*2 ^ (64 - t):=by rw [← Nat.pow_add,show t+(64 - t)=64 by omega]
  have hq:2*q+1<2 ^ (64 - t):=by
    rw [e,h64] at hX
    exact Nat.lt_of_mul_lt_mul_left hX
  refine ⟨?_,ht⟩
  rw [e,h64,← Nat.mul_sub,Nat.mul_comm,Nat.mul_comm (2 ^ t),← Nat.shiftLeft_eq,← Nat.shiftLeft_eq,← Nat.shiftLeft_and_distrib,ze1 hq,Nat.shiftLeft_eq,Nat.one_mul]
end Go.Proofs.YthdpkaiieomdoaaGreatDoor

namespace Go.Proofs.YthdpkaiieomdoaaGreatDoor
open Go.RowKit
def TAB:List Nat:=[0,1,56,2,57,49,28,3,61,58,42,50,38,29,17,4,62,47,59,36,45,43,51,22,53,39,33,30,24,18,12,5,63,55,48,27,60,41,37,16,46,35,44,21,52,32,23,11,54,26,40,15,34,20,31,10,25,14,19,9,13,8,7,6]
def Tabled (w:World):Prop:=∀ i,i<64→w.cell? ⟨2,i,none⟩=some (.int .u8 ((TAB.getD i 0:Nat):Int))
theorem ze2:∀ t,t<64→TAB.getD (2 ^ t*285870213051353865 % 2 ^ 64 / 2 ^ 58) 0=t:=by decide
theorem zf2 (x b p i t:Int) (w:World) (h0:(x == 0)=false) (e1:bits .and .u64 x (IntKind.u64.wrap (-x))=b) (e2:IntKind.u64.wrap (b*285870213051353865)=p) (hi:p / 288230376151711744=i) (hi1:0≤i) (hi2:i<64)
    (hc:w.cell? ⟨2,i.toNat,none⟩=some (.int .u8 t)) (ht:Aside (wrap64 t=t)):Calls Tryz.prog 202 #[.int .u64 x] w fun e w'=>e=.returned (.int .i64 t)∧w=w':=by
  go_enter Tryz.func202,Tryz.ntmps202
  go_wp2
  go_ret
  refine ⟨?_,rfl⟩
  rw [show (Value.int .i64 t)=.int .i64 (wrap64 t) by rw [ht.out]]
  rfl
theorem zfx (X t q:Nat) (hX:X<2 ^ 64) (e:X=2 ^ t*(2*q+1)) (w:World) (hT:Tabled w):Calls Tryz.prog 202 #[.int .u64 (X:Int)] w fun e w'=>e=.returned (.int .i64 (t:Int))∧w=w':=by
  obtain ⟨ha,ht⟩:=z9m hX e
  have hX0:0<X:=by
    rw [e]
    exact Nat.mul_pos (Nat.two_pow_pos t) (by omega)
  have hm:IntKind.u64.wrap (-(X:Int))=((2 ^ 64 - X:Nat):Int):=by rw [z09];omega
  have hb:bits .and .u64 (X:Int) (IntKind.u64.wrap (-(X:Int)))=((2 ^ t:Nat):Int):=by rw [hm,z41 hX (by omega),ha]
  have hp:IntKind.u64.wrap (((2 ^ t:Nat):Int)*285870213051353865)=((2 ^ t*285870213051353865 % 2 ^ 64:Nat):Int):=by
    rw [z09]
    generalize 2 ^ t=u
    omega
  have hl:2 ^ t*285870213051353865 % 2 ^ 64<2 ^ 64:=Nat.mod_lt _ (by decide)
  have hi:2 ^ t*285870213051353865 % 2 ^ 64 / 2 ^ 58<64:=Nat.div_lt_of_lt_mul (by omega)
  have hc:=hT _ hi
  rw [ze2 t ht] at hc
  refine zf2 X _ _ ((2 ^ t*285870213051353865 % 2 ^ 64 / 2 ^ 58:Nat):Int) t w (by simp;omega) hb hp ?_ (by omega) (by omega) (by rw [Int.toNat_natCast];exact hc) (by unfold Aside wrap64;omega)
  generalize 2 ^ t*285870213051353865 % 2 ^ 64=u
  omega
theorem ze3 (x r:Int) (w:World) (c:Calls Tryz.prog 202 #[.int .u64 x] w fun e w'=>e=.returned (.int .i64 r)∧w=w'):
    Calls Tryz.prog 184 #[.int .u64 x] w fun e w'=>e=.returned (.int .i64 r)∧w=w':=by
  go_enter Tryz.func184,Tryz.ntmps184
  go_wp2_with fail
  refine c.mono ?_
  rintro e w' ⟨rfl,rfl⟩
  go_wp2
  go_ret
  exact ⟨rfl,rfl⟩
end Go.Proofs.YthdpkaiieomdoaaGreatDoor
