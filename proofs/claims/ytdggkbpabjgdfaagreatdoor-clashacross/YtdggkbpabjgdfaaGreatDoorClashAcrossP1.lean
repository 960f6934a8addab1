/- ClashAcross: part 1. -/
import Derived.Test.YtdggkbpabjgdfaaGreatDoorProg
import Derived.WalkKit
import Derived.WalkLawsBesides
import Derived.Deep.RegionHeld3
import Derived.OpenShut
import Derived.Deep.LoopGhost
namespace Go.Proofs.YtdggkbpabjgdfaaGreatDoor
set_option maxRecDepth 100000
@[reducible] def tt : Bool := true
@[reducible] def ff : Bool := false
theorem tkH {ops:Array Oper} {Q:Exit->Act->World->Prop} {S:World->Prop} {fuel:Nat} {lb:List Bool} {l:List Value} {ds:List Deferred} {w:World} (oi:Oper) (v:Value) {t:Tmp} (i:Nat) (hQ:∀ c (a:Act) (t:Tmp) (v:Value) w,Q (.panic c) (a.put (some t) v) w->Q (.panic c) a w) (hy:YieldsIf Tryz.prog ops S oi v ⟨l.toArray,ds⟩) (hS:S w)
  (h:wpAnyH Tryz.prog .any ops Q S fuel (lb.set i true).toArray ⟨(l.set t v).toArray,ds⟩ w) (hi:ops[i]?=some oi:=by rfl) (hd:oi.dst=some t:=by rfl) (hs:Region.noSelect ops=true:=by kernel_rfl) (hf:Region.free .any ops lb.toArray i=true:=by kernel_rfl) (hr:(Region.ready .any ops lb.toArray).contains i=true:=by kernel_rfl):
  wpAnyH Tryz.prog .any ops Q S (fuel+1) lb.toArray ⟨l.toArray,ds⟩ w:=by
 refine wpAnyH_take hi hs hf hr (fun c a w h=>by rw [hd] at h;exact hQ _ _ _ _ _ h) hy hS ?_;rw [hd];simpa only [Act.put,List.setIfInBounds_toArray] using h
theorem tkP {ops:Array Oper} {Q:Exit->Act->World->Prop} {S:World->Prop} {fuel:Nat} {lb:List Bool} {l:List Value} {ds:List Deferred} {w:World} (oi:Oper) (v:Value) {t:Tmp} (i:Nat) (hQ:∀ c (a:Act) (t:Tmp) (v:Value) w,Q (.panic c) (a.put (some t) v) w->Q (.panic c) a w) (hS:S w)
  (h:wpAnyH Tryz.prog .any ops Q S fuel (lb.set i true).toArray ⟨(l.set t v).toArray,ds⟩ w) (hy:YieldsIf Tryz.prog ops S oi v ⟨l.toArray,ds⟩:=by exact Yields.yieldsIf (Or.inl ⟨by rfl,fun W=>by go_simp⟩)) (hi:ops[i]?=some oi:=by rfl) (hd:oi.dst=some t:=by rfl) (hs:Region.noSelect ops=true:=by kernel_rfl) (hf:Region.free .any ops lb.toArray i=true:=by kernel_rfl) (hr:(Region.ready .any ops lb.toArray).contains i=true:=by kernel_rfl):
  wpAnyH Tryz.prog .any ops Q S (fuel+1) lb.toArray ⟨l.toArray,ds⟩ w:=by
 refine wpAnyH_take hi hs hf hr (fun c a w h=>by rw [hd] at h;exact hQ _ _ _ _ _ h) hy hS ?_;rw [hd];simpa only [Act.put,List.setIfInBounds_toArray] using h
theorem tkB {ops:Array Oper} {Q:Exit->Act->World->Prop} {fuel:Nat} {lb:List Bool} {l:List Value} {ds:List Deferred} {w:World} (oi:Oper) (v:Value) {t:Tmp} (i:Nat) (hQ:∀ c (a:Act) (t:Tmp) (v:Value) w,Q (.panic c) (a.put (some t) v) w->Q (.panic c) a w)
  (h:wpAny Tryz.prog .any ops Q fuel (lb.set i true).toArray ⟨(l.set t v).toArray,ds⟩ w) (hy:Yields Tryz.prog ops oi v ⟨l.toArray,ds⟩:=by exact Or.inl ⟨by rfl,fun W=>by go_simp⟩) (hi:ops[i]?=some oi:=by rfl) (hd:oi.dst=some t:=by rfl) (hs:Region.noSelect ops=true:=by kernel_rfl) (hf:Region.free .any ops lb.toArray i=true:=by kernel_rfl) (hr:(Region.ready .any ops lb.toArray).contains i=true:=by kernel_rfl):
  wpAny Tryz.prog .any ops Q (fuel+1) lb.toArray ⟨l.toArray,ds⟩ w:=by
 refine wpAny_take hi hs hf hr (fun c a w h=>by rw [hd] at h;exact hQ _ _ _ _ _ h) hy ?_;rw [hd];simpa only [Act.put,List.setIfInBounds_toArray] using h
end Go.Proofs.YtdggkbpabjgdfaaGreatDoor
namespace Go.Proofs.YtdggkbpabjgdfaaGreatDoor
open Go.RowKit
def SHL (x:Nat) (n:Int):Nat:=if n<0 then x / 2 ^ (-n).toNat else x*2 ^ n.toNat % 2 ^ 64
def SHR (x:Nat) (n:Int):Nat:=if n<0 then x*2 ^ (-n).toNat % 2 ^ 64 else x / 2 ^ n.toNat
def MASK (n:Int):Nat:=2 ^ min n.toNat 64 - 1
theorem z9K {x:Nat} (hx:x<2 ^ 64) (n:Int):SHL x n<2 ^ 64:=by
 unfold SHL;split
 ·exact Nat.lt_of_le_of_lt (Nat.div_le_self _ _) hx
 ·exact Nat.mod_lt _ (by decide)
theorem wf_u64 {x:Int} (h:(Lit.int .u64 x).wf=true):0<=x/\x<2 ^ 64:=by
 have:=bounds_u64 h;omega
theorem zbR {x k:Nat} (hx:x<2 ^ 64) (h:64<=k):x / 2 ^ k=0:=
 Nat.div_eq_of_lt (Nat.lt_of_lt_of_le hx (Nat.pow_le_pow_right (by decide) h))
theorem zbS {x:Nat} (hx:x<2 ^ 64) (k:Nat):x / 2 ^ min k 64=x / 2 ^ k:=by
 by_cases h:k<=64
 ·rw [Nat.min_eq_left h]
 ·rw [Nat.min_eq_right (by omega),zbR hx (Nat.le_refl _),zbR hx (by omega)]
theorem zbT (x k:Nat):x*2 ^ min k 64 % 2 ^ 64=x*2 ^ k % 2 ^ 64:=by
 by_cases h:k<=64
 ·rw [Nat.min_eq_left h]
 ·rw [Nat.min_eq_right (by omega),show k=64+(k - 64) by omega,Nat.pow_add,Nat.mul_mod_left,<-Nat.mul_assoc,Nat.mul_right_comm,Nat.mul_mod_left]
theorem z08 (z:Int):IntKind.u64.wrap z=z % 2 ^ 64:=by rw [IntKind.wrap_u64];rfl
theorem z72 (n:Int) (h0 : -(2 ^ 63)<=n) (h:n<0):(IntKind.u64.wrap (-IntKind.u64.wrap n)).toNat=(-n).toNat:=by
 rw [z08,z08];omega
theorem zcx (n:Int) (h0:n<2 ^ 63) (h:¬ n<0):(IntKind.u64.wrap n).toNat=n.toNat:=by
 rw [z08];omega
theorem z1K (X k:Nat):(X:Int) / 2 ^ k=((X / 2 ^ k:Nat):Int):=by simp
theorem z6w (X k:Nat):IntKind.u64.wrap ((X:Int)*2 ^ k)=((X*2 ^ k % 2 ^ 64:Nat):Int):=by rw [z08];simp
theorem zcy {X:Nat} (hX:X<2 ^ 64) {n:Int} (h0 : -(2 ^ 63)<=n) (h1:n<2 ^ 63):
  (if n<0 then (X:Int) / 2 ^ min (IntKind.u64.wrap (-IntKind.u64.wrap n)).toNat 64 else IntKind.u64.wrap ((X:Int)*2 ^ min (IntKind.u64.wrap n).toNat 64))=((SHL X n:Nat):Int):=by
 unfold SHL;split
 ·rename_i h
  rw [z72 n h0 h,z1K,zbS hX]
 ·rename_i h
  rw [zcx n h1 h,z6w,zbT]
theorem z73 {X:Nat} (hX:X<2 ^ 64) {n:Int} (h0 : -(2 ^ 63)<=n) (h1:n<2 ^ 63):
  (if n<0 then IntKind.u64.wrap ((X:Int)*2 ^ min (IntKind.u64.wrap (-IntKind.u64.wrap n)).toNat 64) else (X:Int) / 2 ^ min (IntKind.u64.wrap n).toNat 64)=((SHR X n:Nat):Int):=by
 unfold SHR;split
 ·rename_i h
  rw [z72 n h0 h,z6w,zbT]
 ·rename_i h
  rw [zcx n h1 h,z1K,zbS hX]
theorem zb9 {n:Int} (h1:n<2 ^ 63):
  (if n<=0 then 0 else IntKind.u64.wrap (IntKind.u64.wrap (1*2 ^ min (IntKind.u64.wrap n).toNat 64) - 1))=((MASK n:Nat):Int):=by
 unfold MASK;split
 ·rename_i h
  rw [show n.toNat=0 by omega];rfl
 ·rename_i h
  rw [zcx n h1 (by omega)];have e:(1:Int)*2 ^ min n.toNat 64=((2 ^ min n.toNat 64:Nat):Int):=by simp
  rw [e,z08,z08];have h1:2 ^ min n.toNat 64<=2 ^ 64:=Nat.pow_le_pow_right (by decide) (Nat.min_le_right _ _);have h2:0<2 ^ min n.toNat 64:=Nat.two_pow_pos _;generalize 2 ^ min n.toNat 64=p at *
  omega
theorem z5c {a b:Nat} (ha:a<2 ^ 64) (hb:b<2 ^ 64):bits .and .u64 (a:Int) (b:Int)=((a &&& b:Nat):Int):=bits_and_u64_nat a b ha hb
theorem zcz {a b:Nat} (ha:a<2 ^ 64) (hb:b<2 ^ 64):bits .or .u64 (a:Int) (b:Int)=((a ||| b:Nat):Int):=bits_or_u64_nat a b ha hb
theorem zba (n:Int):(BitVec.ofInt 64 n).toNat=(n % 2 ^ 64).toNat:=by simp [BitVec.toNat_ofInt]
theorem ziv (n:Int):bits .and .i64 n 127=n % 128:=by
 show IntKind.i64.wrap ((BitVec.ofInt 64 n &&& BitVec.ofInt 64 127).toNat:Int)=_;have h7:(BitVec.ofInt 64 127).toNat=127:=by decide
 rw [BitVec.toNat_and,zba,h7,nat_mask7,IntKind.wrap_i64];omega
def DSUM (w:Nat):Nat->Nat->Nat
 | 0,_=>0
 | n+1,x=>x % 2 ^ w+DSUM w n (x / 2 ^ w)
def MSK (k:Nat):Nat->Nat
 | 0=>0
 | n+1=>(2 ^ k - 1)+2 ^ (2*k)*MSK k n
def ADDF (k:Nat):Nat->Nat->Nat
 | 0,_=>0
 | n+1,x=>(x % 2 ^ k+x / 2 ^ k % 2 ^ k)+2 ^ (2*k)*ADDF k n (x / 2 ^ (2*k))
def DLE (w D:Nat):Nat->Nat->Prop
 | 0,_=>True
 | n+1,x=>x % 2 ^ w<=D/\DLE w D n (x / 2 ^ w)
theorem z8B (b q r s t:Nat) (hr:r<2 ^ b) (hs:s<2 ^ b):(r+2 ^ b*q) &&& (s+2 ^ b*t)=(r &&& s)+2 ^ b*(q &&& t):=by
 rw [Nat.add_comm r,Nat.add_comm s,Nat.add_comm (r &&& s)];apply Nat.eq_of_testBit_eq;intro i;have hrs:r &&& s<2 ^ b:=Nat.lt_of_le_of_lt Nat.and_le_left hr;rw [Nat.testBit_and,Nat.testBit_two_pow_mul_add _ hr,Nat.testBit_two_pow_mul_add _ hs,Nat.testBit_two_pow_mul_add _ hrs];split
 ·rw [Nat.testBit_and]
 ·rw [Nat.testBit_and]
theorem z2F (k:Nat):2 ^ (2*k)=2 ^ k*2 ^ k:=by rw [Nat.two_mul,Nat.pow_add]
theorem ze1 (k:Nat):2 ^ k - 1<2 ^ (2*k):=by
 have h1:2 ^ k<=2 ^ (2*k):=Nat.pow_le_pow_right (by decide) (by omega);have h2:=Nat.two_pow_pos k;omega
theorem ziw (k x:Nat):x=x % 2 ^ (2*k)+2 ^ (2*k)*(x / 2 ^ (2*k)):=(Nat.mod_add_div _ _).symm
theorem zfL (k x:Nat):x % 2 ^ (2*k) % 2 ^ k=x % 2 ^ k:=Nat.mod_mod_of_dvd _ ⟨2 ^ k,z2F k⟩
theorem zbU (k:Nat):∀ (n x:Nat),x &&& MSK k (n+1)=x % 2 ^ k+2 ^ (2*k)*(x / 2 ^ (2*k) &&& MSK k n):=fun n x=>by
 conv=>lhs;rw [ziw k x]
 show _ &&& ((2 ^ k - 1)+2 ^ (2*k)*MSK k n)=_;rw [z8B _ _ _ _ _ (Nat.mod_lt _ (Nat.two_pow_pos _)) (ze1 k),Nat.and_two_pow_sub_one_eq_mod,zfL]
theorem zfM (k x:Nat):x / 2 ^ k / 2 ^ (2*k)=x / 2 ^ (2*k) / 2 ^ k:=by rw [Nat.div_div_eq_div_mul,Nat.div_div_eq_div_mul,Nat.mul_comm]
theorem z7U (k:Nat):∀ (n x:Nat),(x / 2 ^ k &&& MSK k n)+(x &&& MSK k n)=ADDF k n x
 | 0,x=>by simp [MSK,ADDF]
 | n+1,x=>by
   rw [zbU,zbU,zfM,ADDF,<-z7U k n (x / 2 ^ (2*k)),Nat.mul_add];omega
theorem zcA {k:Nat} (hk:1<=k):2<=2 ^ k:=Nat.le_trans (by decide) (Nat.pow_le_pow_right (n:=2) (by decide) hk)
theorem z7V {k:Nat} (hk:1<=k) (x:Nat):x % 2 ^ k+x / 2 ^ k % 2 ^ k<2 ^ (2*k):=by
 have h1:=Nat.mod_lt x (Nat.two_pow_pos k);have h2:=Nat.mod_lt (x / 2 ^ k) (Nat.two_pow_pos k);have h3:2*2 ^ k<=2 ^ k*2 ^ k:=Nat.mul_le_mul_right _ (zcA hk);rw [z2F];omega
theorem z9L {k:Nat} (hk:1<=k) (n x:Nat):ADDF k (n+1) x % 2 ^ (2*k)=x % 2 ^ k+x / 2 ^ k % 2 ^ k:=by
 rw [ADDF,Nat.add_mul_mod_self_left,Nat.mod_eq_of_lt (z7V hk x)]
theorem z8C {k:Nat} (hk:1<=k) (n x:Nat):ADDF k (n+1) x / 2 ^ (2*k)=ADDF k n (x / 2 ^ (2*k)):=by
 rw [ADDF,Nat.add_mul_div_left _ _ (Nat.two_pow_pos _),Nat.div_eq_of_lt (z7V hk x),Nat.zero_add]
theorem z3P {k:Nat} (hk:1<=k):∀ (n x:Nat),DSUM (2*k) n (ADDF k n x)=DSUM k (2*n) x
 | 0,x=>rfl
 | n+1,x=>by
   rw [DSUM,z9L hk,z8C hk,z3P hk n,show 2*(n+1)=2*n+1+1 by omega,DSUM,DSUM,Nat.div_div_eq_div_mul,<-z2F];omega
theorem z4u {k D:Nat} (hk:1<=k):∀ (n x:Nat),DLE k D (2*n) x->DLE (2*k) (2*D) n (ADDF k n x)
 | 0,_,_=>trivial
 | n + 1,x,h=>by
   rw [show 2*(n+1)=2*n+1+1 by omega] at h;obtain ⟨h1,h2,h3⟩:=h;refine ⟨?_,?_⟩
   ·rw [z9L hk]
    omega
   ·rw [z8C hk]
    refine z4u hk n _ ?_;rw [Nat.div_div_eq_div_mul,<-z2F] at h3;exact h3
theorem z9M:∀ (n x:Nat),DLE 1 1 n x
 | 0,_=>trivial
 | n+1,_=>⟨by omega,z9M n _⟩
theorem z8D {k D:Nat} (hk:1<=k) (hD:2*D<2 ^ k):∀ (n x:Nat),x<2 ^ (2*k*n)->DLE k D (2*n) x->(x / 2 ^ k+x) &&& MSK k n=ADDF k n x
 | 0,x,_,_=>by simp [MSK,ADDF]
 | n + 1,x,hx,h=>by
   rw [show 2*(n+1)=2*n+1+1 by omega] at h;obtain ⟨h1,h2,h3⟩:=h;rw [Nat.div_div_eq_div_mul,<-z2F] at h3;have hq:x / 2 ^ (2*k)<2 ^ (2*k*n):=Nat.div_lt_of_lt_mul (by rw [<-Nat.pow_add,show 2*k+2*k*n=2*k*(n+1) by rw [Nat.mul_add,Nat.mul_one,Nat.add_comm]];exact hx);have ih:=z8D hk hD n (x / 2 ^ (2*k)) hq h3
   have hq0:x / 2 ^ (2*k) % 2 ^ k<=D:=by
    cases n with
    | zero=>
      have:x / 2 ^ (2*k)=0:=by simpa using hq
      rw [this];simp
    | succ n=>exact h3.1
   have hp:=Nat.two_pow_pos k
   have e1:x=x % 2 ^ k+2 ^ k*(x / 2 ^ k % 2 ^ k)+2 ^ k*2 ^ k*(x / 2 ^ (2*k)):=by
    have a:=(Nat.mod_add_div x (2 ^ k)).symm;have b:=(Nat.mod_add_div (x / 2 ^ k) (2 ^ k)).symm;rw [Nat.div_div_eq_div_mul,<-z2F] at b;conv=>lhs;rw [a,b]
    rw [Nat.mul_add,<-Nat.mul_assoc,Nat.add_assoc]
   have e2:x / 2 ^ k=x / 2 ^ k % 2 ^ k+2 ^ k*(x / 2 ^ (2*k) % 2 ^ k)+2 ^ k*2 ^ k*(x / 2 ^ (2*k) / 2 ^ k):=by
    have a:=(Nat.mod_add_div (x / 2 ^ k) (2 ^ k)).symm;rw [Nat.div_div_eq_div_mul,<-z2F] at a;have b:=(Nat.mod_add_div (x / 2 ^ (2*k)) (2 ^ k)).symm;conv=>lhs;rw [a,b]
    rw [Nat.mul_add,<-Nat.mul_assoc,Nat.add_assoc]
   have e3:x / 2 ^ k+x=(x % 2 ^ k+x / 2 ^ k % 2 ^ k+2 ^ k*(x / 2 ^ k % 2 ^ k+x / 2 ^ (2*k) % 2 ^ k))+2 ^ (2*k)*(x / 2 ^ (2*k) / 2 ^ k+x / 2 ^ (2*k)):=by
    conv=>lhs;rw [e2];arg 2;rw [e1]
    rw [z2F,Nat.mul_add,Nat.mul_add];omega
   have hlow:x % 2 ^ k+x / 2 ^ k % 2 ^ k+2 ^ k*(x / 2 ^ k % 2 ^ k+x / 2 ^ (2*k) % 2 ^ k)<2 ^ (2*k):=by
    have h4:2 ^ k*(x / 2 ^ k % 2 ^ k+x / 2 ^ (2*k) % 2 ^ k)<=2 ^ k*(2 ^ k - 1):=Nat.mul_le_mul_left _ (by omega);rw [Nat.mul_sub,Nat.mul_one] at h4;have h5:2 ^ k<=2 ^ k*2 ^ k:=Nat.le_mul_of_pos_left _ hp;have h6:=z2F k;generalize 2 ^ k*(x / 2 ^ k % 2 ^ k+x / 2 ^ (2*k) % 2 ^ k)=y at h4;generalize x / 2 ^ (2*k) % 2 ^ k=z at *
    generalize 2 ^ k*2 ^ k=u at *
    generalize 2 ^ (2*k)=v at *
    omega
   rw [e3];show _ &&& ((2 ^ k - 1)+2 ^ (2*k)*MSK k n)=_;rw [z8B _ _ _ _ _ hlow (ze1 k),Nat.and_two_pow_sub_one_eq_mod,ih,Nat.add_mul_mod_self_left,Nat.mod_eq_of_lt (by omega),ADDF]
def POP (X:Nat):Nat:=DSUM 1 64 X
theorem zj8:MSK 1 32=6148914691236517205:=by decide
theorem zj9:MSK 2 16=3689348814741910323:=by decide
theorem zja:MSK 4 8=1085102592571150095:=by decide
theorem z5V {k:Nat} (hk:1<=k):∀ (n x:Nat),ADDF k n x<2 ^ (2*k*n)
 | 0,_=>by simp [ADDF]
 | n+1,x=>by
   have h1:=z5V hk n (x / 2 ^ (2*k));have h2:=z7V hk x;rw [ADDF,show 2*k*(n+1)=2*k*n+2*k by rw [Nat.mul_add,Nat.mul_one],Nat.pow_add];have h3:2 ^ (2*k)*ADDF k n (x / 2 ^ (2*k))<=2 ^ (2*k)*(2 ^ (2*k*n) - 1):=Nat.mul_le_mul_left _ (by omega);rw [Nat.mul_sub,Nat.mul_one,Nat.mul_comm _ (2 ^ (2*k*n))] at h3;have h4:2 ^ (2*k)<=2 ^ (2*k*n)*2 ^ (2*k):=Nat.le_mul_of_pos_left _ (Nat.two_pow_pos _);omega
theorem z7W {a b q:Nat} (h:b<a):(b+a*q) / a=q:=by rw [Nat.add_mul_div_left _ _ (by omega),Nat.div_eq_of_lt h,Nat.zero_add]
theorem zix {d0 d1 d2 x R1 R2 R3:Nat} (e0:x=d0+256*R1) (e1:R1=d1+256*R2) (e2:R2=d2+256*R3):x+R1=(d0+d1+256*(d1+d2))+65536*(R2+R3):=by
 subst e0 e1 e2;omega
theorem ziy {d0 d1 d2 d3 d4 d5 d6 d7 x R1 R2 R3 R4 R5 R6:Nat} (e0:x=d0+256*R1) (e1:R1=d1+256*R2) (e2:R2=d2+256*R3) (e3:R3=d3+256*R4) (e4:R4=d4+256*R5) (e5:R5=d5+256*R6) (e6:R6=d6+256*d7):
  x+R1+(R2+R3)=(d0+d1+d2+d3+256*(d1+d2+d3+d4)+65536*(d2+d3+d4+d5)+16777216*(d3+d4+d5+d6))+4294967296*(R4+R5+R6+d7):=by
 subst e0 e1 e2 e3 e4 e5 e6;omega
theorem ziz {d0 d1 d2 d3 d4 d5 d6 d7 x R1 R2 R3 R4 R5 R6:Nat} (e0:x=d0+256*R1) (e1:R1=d1+256*R2) (e2:R2=d2+256*R3) (e3:R3=d3+256*R4) (e4:R4=d4+256*R5) (e5:R5=d5+256*R6) (e6:R6=d6+256*d7):
  x+R1+(R2+R3)+(R4+R5+R6+d7)=(d0+(d1+(d2+(d3+(d4+(d5+(d6+d7)))))))+128*(2*(R1+R2+R3+R4+R5+R6+d7)):=by
 rw [e0]
 have h:R1+(R2+R3)+(R4+R5+R6+d7)=(d1+256*R2)+((d2+256*R3)+(d3+256*R4))+((d4+256*R5)+(d5+256*R6)+(d6+256*d7)+d7):=by
  rw [<-e1,<-e2,<-e3,<-e4,<-e5,<-e6]
 clear e0 e1 e2 e3 e4 e5 e6;omega
theorem z4v {d7 d6 R6:Nat} {B:Nat} (e6:R6=d6+256*d7) (h6:d6<=8) (h7:d7<=B):R6<=8+256*B:=by
 subst e6;omega
theorem zfN {d0 d1 d2:Nat} (h0:d0<=8) (h1:d1<=8) (h2:d2<=8):d0+d1+256*(d1+d2)<65536:=by omega
theorem zfO {d0 d1 d2 d3 d4 d5 d6:Nat} (h0:d0<=8) (h1:d1<=8) (h2:d2<=8) (h3:d3<=8) (h4:d4<=8) (h5:d5<=8) (h6:d6<=8):d0+d1+d2+d3+256*(d1+d2+d3+d4)+65536*(d2+d3+d4+d5)+16777216*(d3+d4+d5+d6)<4294967296:=by omega
theorem zfP {d0 d1 d2 d3 d4 d5 d6 d7:Nat} (h0:d0<=8) (h1:d1<=8) (h2:d2<=8) (h3:d3<=8) (h4:d4<=8) (h5:d5<=8) (h6:d6<=8) (h7:d7<=8):d0+(d1+(d2+(d3+(d4+(d5+(d6+d7))))))<128:=by omega
theorem zht {x R1 R2 R3 R4 R5 R6 d7:Nat} (h7:d7<=8) (b6:R6<=8+256*8) (b5:R5<=8+256*(8+256*8)) (b4:R4<=8+256*(8+256*(8+256*8))) (b3:R3<=8+256*(8+256*(8+256*(8+256*8)))) (b2:R2<=8+256*(8+256*(8+256*(8+256*(8+256*8))))) (b1:R1<=8+256*(8+256*(8+256*(8+256*(8+256*(8+256*8)))))) (b0:x<=8+256*(8+256*(8+256*(8+256*(8+256*(8+256*(8+256*8))))))):
 x+R1+(R2+R3)+(R4+R5+R6+d7)<2 ^ 64:=by omega
theorem zcB (d0 d1 d2 d3 d4 d5 d6 d7:Nat) (h0:d0<=8) (h1:d1<=8) (h2:d2<=8) (h3:d3<=8) (h4:d4<=8) (h5:d5<=8) (h6:d6<=8) (h7:d7<=8) (x R1 R2 R3 R4 R5 R6:Nat)
  (e0:x=d0+256*R1) (e1:R1=d1+256*R2) (e2:R2=d2+256*R3) (e3:R3=d3+256*R4) (e4:R4=d4+256*R5) (e5:R5=d5+256*R6) (e6:R6=d6+256*d7):
  (x+x / 256+(x+x / 256) / 65536+(x+x / 256+(x+x / 256) / 65536) / 4294967296) % 128=d0+(d1+(d2+(d3+(d4+(d5+(d6+d7))))))/\x+x / 256+(x+x / 256) / 65536+(x+x / 256+(x+x / 256) / 65536) / 4294967296<2 ^ 64:=by
 have q1:x / 256=R1:=by rw [e0];exact z7W (Nat.lt_of_le_of_lt h0 (by decide))
 have q2:(x+R1) / 65536=R2+R3:=by rw [zix e0 e1 e2];exact z7W (zfN h0 h1 h2)
 have q3:(x+R1+(R2+R3)) / 4294967296=R4+R5+R6+d7:=by rw [ziy e0 e1 e2 e3 e4 e5 e6];exact z7W (zfO h0 h1 h2 h3 h4 h5 h6)
 rw [q1,q2,q3];have b6:=z4v e6 h6 h7;have b5:=z4v e5 h5 b6;have b4:=z4v e4 h4 b5;have b3:=z4v e3 h3 b4;have b2:=z4v e2 h2 b3;have b1:=z4v e1 h1 b2;have b0:=z4v e0 h0 b1;refine ⟨?_,zht h7 b6 b5 b4 b3 b2 b1 b0⟩;rw [ziz e0 e1 e2 e3 e4 e5 e6,Nat.add_mul_mod_self_left,Nat.mod_eq_of_lt (zfP h0 h1 h2 h3 h4 h5 h6 h7)]
theorem zfQ {x:Nat} (hx:x<2 ^ 64) (h:DLE 8 8 8 x):(x+x / 256+(x+x / 256) / 65536+(x+x / 256+(x+x / 256) / 65536) / 4294967296) % 128=DSUM 8 8 x/\x+x / 256+(x+x / 256) / 65536+(x+x / 256+(x+x / 256) / 65536) / 4294967296<2 ^ 64:=by
 obtain ⟨h0,h1,h2,h3,h4,h5,h6,h7,_⟩:=h;simp only [DSUM,Nat.add_zero];simp only [Nat.reducePow] at *
 have l7:x / 256 / 256 / 256 / 256 / 256 / 256 / 256<256:=by
  have e:x / 256 / 256 / 256 / 256 / 256 / 256 / 256=x / 72057594037927936:=by simp only [Nat.div_div_eq_div_mul]
  rw [e];exact Nat.div_lt_of_lt_mul hx
 rw [Nat.mod_eq_of_lt l7] at h7 ⊢
 exact zcB _ _ _ _ _ _ _ _ h0 h1 h2 h3 h4 h5 h6 h7 x (x / 256) (x / 256 / 256) (x / 256 / 256 / 256) (x / 256 / 256 / 256 / 256) (x / 256 / 256 / 256 / 256 / 256) (x / 256 / 256 / 256 / 256 / 256 / 256)
  (Nat.mod_add_div _ _).symm (Nat.mod_add_div _ _).symm (Nat.mod_add_div _ _).symm (Nat.mod_add_div _ _).symm (Nat.mod_add_div _ _).symm (Nat.mod_add_div _ _).symm (Nat.mod_add_div _ _).symm
def X1 (X:Nat):Nat:=(X / 2 &&& 6148914691236517205)+(X &&& 6148914691236517205)
def X2 (X:Nat):Nat:=(X1 X / 4 &&& 3689348814741910323)+(X1 X &&& 3689348814741910323)
def X3 (X:Nat):Nat:=(X2 X / 16+X2 X) &&& 1085102592571150095
theorem zcC (X:Nat):X1 X=ADDF 1 32 X:=by
 have:=z7U 1 32 X;rw [zj8] at this;exact this
theorem zcD (X:Nat):X2 X=ADDF 2 16 (X1 X):=by
 have:=z7U 2 16 (X1 X);rw [zj9] at this;exact this
theorem zcE (X:Nat):DLE 4 4 16 (X2 X):=by
 rw [zcD];refine z4u (k:=2) (D:=2) (by decide) 16 _ ?_;rw [zcC];exact z4u (k:=1) (D:=1) (by decide) 32 _ (z9M 64 X)
theorem zho (X:Nat):X2 X<2 ^ 64:=by
 rw [zcD];exact z5V (k:=2) (by decide) 16 _
theorem zcF (X:Nat):X3 X=ADDF 4 8 (X2 X):=by
 have:=z8D (k:=4) (D:=4) (by decide) (by decide) 8 (X2 X) (zho X) (zcE X);rw [zja] at this;exact this
theorem zjb (X:Nat):DLE 8 8 8 (X3 X):=by
 rw [zcF];exact z4u (k:=4) (D:=4) (by decide) 8 _ (zcE X)
theorem zjc (X:Nat):X3 X<2 ^ 64:=by
 rw [zcF];exact z5V (k:=4) (by decide) 8 _
theorem ziA (X:Nat):DSUM 8 8 (X3 X)=POP X:=by
 rw [zcF];have a:=z3P (k:=4) (by decide) 8 (X2 X);have b:=z3P (k:=2) (by decide) 16 (X1 X);have c:=z3P (k:=1) (by decide) 32 X;rw [<-zcD] at b;rw [<-zcC] at c;exact a.trans (b.trans c)
end Go.Proofs.YtdggkbpabjgdfaaGreatDoor
namespace Go.Proofs.YtdggkbpabjgdfaaGreatDoor
def PCF:Nat->Nat->Nat
 | 0,_=>0
 | f+1,n=>n % 2+PCF f (n / 2)
def PC (n:Nat):Nat:=PCF n n
theorem z3A:∀ f,PCF f 0=0
 | 0=>rfl
 | f+1=>by
   show 0 % 2+PCF f (0 / 2)=0;rw [show 0 / 2=0 from rfl,z3A f]
theorem z6x:∀ f g n,n<=f->n<=g->PCF f n=PCF g n
 | 0,g,n,h,_=>by
   have h0:n=0:=by omega
   subst h0;rw [z3A,z3A]
 | f+1,0,n,_,h=>by
   have h0:n=0:=by omega
   subst h0;rw [z3A,z3A]
 | f+1,g+1,n,h1,h2=>by
   show n % 2+PCF f (n / 2)=n % 2+PCF g (n / 2);rw [z6x f g (n / 2) (by omega) (by omega)]
theorem z1q:PC 0=0:=rfl
theorem z0W (n:Nat):PC n=n % 2+PC (n / 2):=by
 show PCF n n=n % 2+PCF (n / 2) (n / 2);rw [z6x n (n+1) n (Nat.le_refl n) (Nat.le_succ n)];show n % 2+PCF n (n / 2)=n % 2+PCF (n / 2) (n / 2);rw [z6x n (n / 2) (n / 2) (by omega) (Nat.le_refl _)]
theorem z7X (m:Nat):PC (2*m)=PC m:=by
 rw [z0W,show 2*m % 2=0 by omega,show 2*m / 2=m by omega,Nat.zero_add]
theorem z5d (m:Nat):PC (2*m+1)=PC m+1:=by
 rw [z0W,show (2*m+1) % 2=1 by omega,show (2*m+1) / 2=m by omega,Nat.add_comm]
theorem ze2:PC 1=1:=by rw [show (1:Nat)=2*0+1 from rfl,z5d,z1q]
theorem zhp (n:Nat):PC n<=n:=by
 induction n using Nat.strongRecOn with
 | _ n ih=>
   by_cases h:n=0
   ·subst h
    rw [z1q];omega
   ·have:=ih (n / 2) (by omega)
    rw [z0W];omega
theorem z74 (h:Nat):∀ k r,r<2 ^ h->PC (k*2 ^ h+r)=PC k+PC r:=by
 induction h with
 | zero=>
   intro k r hr;have:r=0:=by simpa using hr
   subst this;rw [z1q];simp
 | succ h ih=>
   intro k r hr;rw [Nat.pow_succ] at hr
   have e:k*2 ^ (h+1)+r=2*(k*2 ^ h+r / 2)+r % 2:=by
    rw [Nat.pow_succ,<-Nat.mul_assoc];omega
   have hr2:r / 2<2 ^ h:=by omega
   rcases Nat.mod_two_eq_zero_or_one r with h0 | h0
   ·rw [e,h0,Nat.add_zero,z7X,ih _ _ hr2,z0W r,h0]
    omega
   ·rw [e,h0,z5d,ih _ _ hr2,z0W r,h0]
    omega
theorem z3B (h k:Nat):PC (k*2 ^ h)=PC k:=by
 have:=z74 h k 0 (Nat.two_pow_pos h);rw [z1q] at this;exact this
theorem ziB (h:Nat):PC (2 ^ h)=1:=by
 have:=z3B h 1;rw [Nat.one_mul,ze2] at this;exact this
theorem zbV:∀ h,PC (2 ^ h - 1)=h
 | 0=>z1q
 | h+1=>by
   have hp:=Nat.two_pow_pos h;rw [show 2 ^ (h+1) - 1=2*(2 ^ h - 1)+1 by rw [Nat.pow_succ];omega,z5d,zbV h]
theorem zbW (n:Nat):PC (n+1)<=PC n+1:=by
 induction n using Nat.strongRecOn with
 | _ n ih=>
   rcases Nat.mod_two_eq_zero_or_one n with h | h
   ·rw [z0W (n+1),z0W n,show (n+1) / 2=n / 2 by omega]
    omega
   ·have:=ih (n / 2) (by omega)
    rw [z0W (n+1),z0W n,show (n+1) / 2=n / 2+1 by omega];omega
theorem z0C (h:Nat):∀ n,n<2 ^ h->PC n<=h:=by
 induction h with
 | zero=>
   intro n hn;have:n=0:=by simpa using hn
   subst this;rw [z1q];omega
 | succ h ih=>
   intro n hn;rw [Nat.pow_succ] at hn;have:=ih (n / 2) (by omega);rw [z0W];omega
theorem zbX:∀ k X,X<2 ^ k->DSUM 1 k X=PC X
 | 0,X,h=>by
   have:X=0:=by simpa using h
   subst this;rw [z1q];rfl
 | k+1,X,h=>by
   rw [Nat.pow_succ] at h;rw [z0W,<-zbX k (X / 2) (by omega)];simp [DSUM]
theorem z5e {X:Nat} (h:X<2 ^ 64):POP X=PC X:=zbX 64 X h
def z0v (n:Nat):Nat:=2*n - PC n
theorem z1e (n:Nat):z0v n+PC n=2*n:=by
 have:=zhp n;unfold z0v;omega
theorem z4w (n:Nat):z0v n=n+z0v (n / 2):=by
 have h1:=z1e n;have h2:=z1e (n / 2);rw [z0W] at h1;omega
theorem z2G:z0v 0=0:=by unfold z0v;rw [z1q]
theorem zfR {n m:Nat} (h:n<m):z0v n<z0v m:=by
 induction m with
 | zero=>omega
 | succ m ih=>
   have h1:=z1e m;have h2:=z1e (m+1);have h3:=zbW m;rcases Nat.lt_or_ge n m with h4 | h4
   ·have:=ih h4
    omega
   ·obtain rfl:n=m:=by omega
    omega
theorem z6y {n m:Nat} (h:n<=m):z0v n<=z0v m:=by
 rcases Nat.lt_or_ge n m with h1 | h1
 ·exact Nat.le_of_lt (zfR h1)
 ·obtain rfl:n=m:=by omega
  exact Nat.le_refl _
theorem zfS (n:Nat):n<=z0v n:=by
 rw [z4w];omega
def TREE (h:Nat):Nat:=2 ^ (h+1) - 1
def PLC (h k:Nat):Nat:=z0v (k*2 ^ h)+(2 ^ (h+1) - 2)
theorem z2b (h:Nat):2<=2 ^ (h+1):=by
 have:=Nat.two_pow_pos h;rw [Nat.pow_succ];omega
theorem z2c (h k:Nat):PLC h k+2+PC k=2 ^ (h+1)*(k+1):=by
 have h1:=z1e (k*2 ^ h);have h2:=z2b h;rw [z3B] at h1;unfold PLC;rw [Nat.mul_add,Nat.mul_one,show 2 ^ (h+1)*k=2*(k*2 ^ h) by rw [Nat.pow_succ,Nat.mul_comm (2 ^ h) 2,Nat.mul_assoc,Nat.mul_comm k]];omega
theorem z9N (k:Nat):PLC 0 k=z0v k:=by
 unfold PLC;simp
theorem zbY (h k:Nat):1<=(k+1)*2 ^ h:=Nat.mul_pos (by omega) (Nat.two_pow_pos h)
theorem z6z (h k:Nat):z0v ((k+1)*2 ^ h - 1)+h=PLC h k:=by
 have hp:=Nat.two_pow_pos h
 have e:(k+1)*2 ^ h - 1=k*2 ^ h+(2 ^ h - 1):=by
  rw [Nat.add_mul,Nat.one_mul];omega
 have h1:=z1e (k*2 ^ h+(2 ^ h - 1));rw [z74 h k _ (by omega),zbV] at h1;have h2:=z2c h k;rw [e];rw [Nat.mul_add,Nat.mul_one,show 2 ^ (h+1)*k=2*(k*2 ^ h) by rw [Nat.pow_succ,Nat.mul_comm (2 ^ h) 2,Nat.mul_assoc,Nat.mul_comm k],Nat.pow_succ] at h2;omega
theorem z68 (h m:Nat):PLC (h+1) m=PLC h (2*m)+2 ^ (h+1):=by
 have h1:=z2c (h+1) m;have h2:=z2c h (2*m);rw [z7X] at h2
 have e:2 ^ (h+1+1)*(m+1)=2 ^ (h+1)*(2*m+1)+2 ^ (h+1):=by
  rw [Nat.pow_succ 2 (h+1)];generalize 2 ^ (h+1)=x;rw [Nat.mul_assoc,<-Nat.mul_succ];congr 1
 omega
theorem z3C (h m:Nat):PLC (h+1) m=PLC h (2*m+1)+1:=by
 have h1:=z2c (h+1) m;have h2:=z2c h (2*m+1);rw [z5d] at h2
 have e:2 ^ (h+1+1)*(m+1)=2 ^ (h+1)*(2*m+1+1):=by
  rw [Nat.pow_succ 2 (h+1)];generalize 2 ^ (h+1)=x;rw [Nat.mul_assoc];congr 1
 omega
theorem z7Y (h m:Nat):PLC h (2*m+1)=PLC h (2*m)+TREE h:=by
 have h1:=z68 h m;have h2:=z3C h m;have h3:=z2b h;unfold TREE;omega
theorem z9O {h H k:Nat} (hh:h<=H) (hk:k<2 ^ (H - h)):PLC h (2 ^ (H - h)+k)=TREE H+PLC h k:=by
 have h1:=z2c h (2 ^ (H - h)+k);have h2:=z2c h k;have h3:=z74 (H - h) 1 k hk;rw [Nat.one_mul,ze2] at h3
 have e:2 ^ (h+1)*(2 ^ (H - h)+k+1)=2 ^ (H+1)+2 ^ (h+1)*(k+1):=by
  rw [Nat.add_assoc,Nat.mul_add,<-Nat.pow_add,show h+1+(H - h)=H+1 by omega]
 have h4:=z2b H;unfold TREE;omega
theorem z9P {h H k:Nat} (hh:h<=H) (hk:k<2 ^ (H - h)):PLC h k+2<=2 ^ (H+1):=by
 have h1:=z2c h k;have e:2 ^ (h+1)*(k+1)<=2 ^ (h+1)*2 ^ (H - h):=Nat.mul_le_mul_left _ hk;rw [<-Nat.pow_add,show h+1+(H - h)=H+1 by omega] at e;omega
theorem zhu (H:Nat):∀ h k h' k',h<=H->k<2 ^ (H - h)->h'<=H->k'<2 ^ (H - h')->PLC h k=PLC h' k'->h=h'/\k=k':=by
 induction H with
 | zero=>
   intro h k h' k' a b c d _;obtain rfl:h=0:=by omega
   obtain rfl:h'=0:=by omega
   simp at b d;omega
 | succ H ih=>
   have top:∀ h k,h<=H+1->k<2 ^ (H+1 - h)->(h=H+1/\k=0/\PLC h k+2=2 ^ (H+2))\/(h<=H/\k<2 ^ (H - h)/\PLC h k+2<=2 ^ (H+1))\/(h<=H/\∃ q,k=2 ^ (H - h)+q/\q<2 ^ (H - h)/\PLC h k=TREE H+PLC h q/\PLC h q+2<=2 ^ (H+1)):=by
    intro h k a b;rcases Nat.lt_or_ge H h with h1 | h1
    ·obtain rfl:h=H+1:=by omega
     have hk:k=0:=by simpa using b
     subst hk;have:=z2c (H+1) 0;rw [z1q] at this;exact .inl ⟨rfl,rfl,by simpa using this⟩
    ·rcases Nat.lt_or_ge k (2 ^ (H - h)) with h2 | h2
     ·exact .inr (.inl ⟨h1,h2,z9P h1 h2⟩)
     ·have hq:k - 2 ^ (H - h)<2 ^ (H - h):=by
       rw [show H+1 - h=H - h+1 by omega,Nat.pow_succ] at b;omega
      refine .inr (.inr ⟨h1,k - 2 ^ (H - h),by omega,hq,?_,z9P h1 hq⟩);have:=z9O h1 hq;rw [show 2 ^ (H - h)+(k - 2 ^ (H - h))=k by omega] at this;exact this
   have hp:=z2b H;have hpp:2 ^ (H+2)=2*2 ^ (H+1):=by rw [Nat.pow_succ 2 (H+1),Nat.mul_comm]
   intro h k h' k' a b c d e;unfold TREE at top;rcases top h k a b with ⟨r1,r2,r3⟩ | ⟨r1,r2,r3⟩ | ⟨r1,q,r2,r3,r4,r5⟩ <;> rcases top h' k' c d with ⟨s1,s2,s3⟩ | ⟨s1,s2,s3⟩ | ⟨s1,q',s2,s3,s4,s5⟩
   ·omega
   ·omega
   ·omega
   ·omega
   ·exact ih h k h' k' r1 r2 s1 s2 e
   ·omega
   ·omega
   ·omega
   ·obtain ⟨rfl,rfl⟩:=ih h q h' q' r1 r3 s1 s3 (by omega)
    exact ⟨rfl,by omega⟩
theorem zhv (H:Nat):∀ p,p+2<=2 ^ (H+1)->∃ h k,h<=H/\k<2 ^ (H - h)/\p=PLC h k:=by
 induction H with
 | zero=>
   intro p hp;have:p=0:=by simpa using hp
   subst this;exact ⟨0,0,by omega,by simp,by rw [z9N,z2G]⟩
 | succ H ih=>
   intro p hp;have hpp:2 ^ (H+2)=2*2 ^ (H+1):=by rw [Nat.pow_succ 2 (H+1),Nat.mul_comm]
   have h2:=z2b H;by_cases h1:p+2=2 ^ (H+2)
   ·refine ⟨H+1,0,Nat.le_refl _,by simp,?_⟩
    have:=z2c (H+1) 0;rw [z1q] at this;simp only [Nat.zero_add,Nat.mul_one,Nat.add_zero] at this;omega
   ·by_cases h3:p+2<=2 ^ (H+1)
    ·obtain ⟨h,k,a,b,c⟩:=ih p h3
     exact ⟨h,k,by omega,Nat.lt_of_lt_of_le b (Nat.pow_le_pow_right (by decide) (by omega)),c⟩
    ·obtain ⟨h,k,a,b,c⟩:=ih (p - TREE H) (by unfold TREE;rw [show H+1+1=H+2 from rfl] at hp;omega)
     refine ⟨h,2 ^ (H - h)+k,by omega,?_,?_⟩
     ·rw [show H+1 - h=H - h+1 by omega,Nat.pow_succ]
      omega
     ·rw [z9O a b,<-c]
      unfold TREE;omega
def Node (h k:Nat):Prop:=h<=62/\k<2 ^ (62 - h)
theorem Node.one {h k h' k':Nat} (a:Node h k) (b:Node h' k') (e:PLC h k=PLC h' k'):h=h'/\k=k':=zhu 62 h k h' k' a.1 a.2 b.1 b.2 e
theorem Node.lt {h k:Nat} (a:Node h k):PLC h k<9223372036854775807:=by
 have:=z9P a.1 a.2;omega
theorem Node.of {p:Nat} (hp:p<9223372036854775807):∃ h k,Node h k/\p=PLC h k:=by
 obtain ⟨h,k,a,b,c⟩:=zhv 62 p (by omega);exact ⟨h,k,⟨a,b⟩,c⟩
theorem Node.index_lt {h k:Nat} (a:Node h k):k<2 ^ 62:=Nat.lt_of_lt_of_le a.2 (Nat.pow_le_pow_right (by decide) (by omega))
theorem Node.span {h k:Nat} (a:Node h k):(k+1)*2 ^ h<=2 ^ 62:=by
 have:(k+1)*2 ^ h<=2 ^ (62 - h)*2 ^ h:=Nat.mul_le_mul_right _ a.2;rw [<-Nat.pow_add,Nat.sub_add_cancel a.1] at this;exact this
theorem zcG:z0v 4611686018427387904=9223372036854775807:=by
 have h:=z1e (2 ^ 62);rw [ziB] at h;have e:(4611686018427387904:Nat)=2 ^ 62:=by decide
 rw [e];omega
end Go.Proofs.YtdggkbpabjgdfaaGreatDoor
namespace Go.Proofs.YtdggkbpabjgdfaaGreatDoor
open Go.RowKit
theorem zhw (x n:Int) (w:World):Calls Tryz.prog 144 #[.int .u64 x,.int .i64 n] w fun e w'=>e=.returned (.int .u64 (if n<0 then x / 2 ^ min (IntKind.u64.wrap (-IntKind.u64.wrap n)).toNat 64 else IntKind.u64.wrap (x*2 ^ min (IntKind.u64.wrap n).toNat 64)))/\w=w':=by
 by_cases h:n<0
 ·rw [if_pos h]
  go_enter Tryz.func144,Tryz.ntmps144;go_wp2;go_ret;exact ⟨rfl,rfl⟩
 ·rw [if_neg h]
  go_enter Tryz.func144,Tryz.ntmps144;go_wp2;go_ret;exact ⟨rfl,rfl⟩
theorem z7Z (x n:Int) (w:World):Calls Tryz.prog 145 #[.int .u64 x,.int .i64 n] w fun e w'=>e=.returned (.int .u64 (if n<0 then IntKind.u64.wrap (x*2 ^ min (IntKind.u64.wrap (-IntKind.u64.wrap n)).toNat 64) else x / 2 ^ min (IntKind.u64.wrap n).toNat 64))/\w=w':=by
 by_cases h:n<0
 ·rw [if_pos h]
  go_enter Tryz.func145,Tryz.ntmps145;go_wp2;go_ret;exact ⟨rfl,rfl⟩
 ·rw [if_neg h]
  go_enter Tryz.func145,Tryz.ntmps145;go_wp2;go_ret;exact ⟨rfl,rfl⟩
theorem zfT (n:Int) (w:World):Calls Tryz.prog 114 #[.int .i64 n] w fun e w'=>e=.returned (.int .u64 (if n<=0 then 0 else IntKind.u64.wrap (IntKind.u64.wrap (1*2 ^ min (IntKind.u64.wrap n).toNat 64) - 1)))/\w=w':=by
 by_cases h:n<=0
 ·rw [if_pos h]
  go_enter Tryz.func114,Tryz.ntmps114;go_wp2;go_ret;exact ⟨rfl,rfl⟩
 ·rw [if_neg h]
  go_enter Tryz.func114,Tryz.ntmps114;go_wp2;go_ret;exact ⟨rfl,rfl⟩
theorem z9Q (X:Nat) (n:Int) (hX:X<2 ^ 64) (h0 : -(2 ^ 63)<=n) (h1:n<2 ^ 63) (w:World):Calls Tryz.prog 144 #[.int .u64 (X:Int),.int .i64 n] w fun e w'=>e=.returned (.int .u64 ((SHL X n:Nat):Int))/\w=w':=
 (zhw X n w).mono fun e w' h=>by rw [zcy hX h0 h1] at h;exact h
theorem z38 (X:Nat) (n:Int) (hX:X<2 ^ 64) (h0 : -(2 ^ 63)<=n) (h1:n<2 ^ 63) (w:World):Calls Tryz.prog 145 #[.int .u64 (X:Int),.int .i64 n] w fun e w'=>e=.returned (.int .u64 ((SHR X n:Nat):Int))/\w=w':=
 (z7Z X n w).mono fun e w' h=>by rw [z73 hX h0 h1] at h;exact h
theorem zbZ (n:Int) (h1:n<2 ^ 63) (w:World):Calls Tryz.prog 114 #[.int .i64 n] w fun e w'=>e=.returned (.int .u64 ((MASK n:Nat):Int))/\w=w':=
 (zfT n w).mono fun e w' h=>by rw [zb9 h1] at h;exact h
theorem zfU (x x1 x2 x3 x4 x5 x6 r:Int) (w:World)
  (e1:IntKind.u64.wrap (bits .and .u64 (x / 2) 6148914691236517205+bits .and .u64 x 6148914691236517205)=x1)
  (e2:IntKind.u64.wrap (bits .and .u64 (x1 / 4) 3689348814741910323+bits .and .u64 x1 3689348814741910323)=x2)
  (e3:bits .and .u64 (IntKind.u64.wrap (x2 / 16+x2)) 1085102592571150095=x3)
  (e4:IntKind.u64.wrap (x3+x3 / 256)=x4) (e5:IntKind.u64.wrap (x4+x4 / 65536)=x5) (e6:IntKind.u64.wrap (x5+x5 / 4294967296)=x6)
  (e7:bits .and .i64 (wrap64 x6) 127=r):
  Calls Tryz.prog 49 #[.int .u64 x] w fun e w'=>e=.returned (.int .i64 r)/\w=w':=by
 go_enter Tryz.func49,Tryz.ntmps49;go_wp2;go_ret;exact ⟨rfl,rfl⟩
theorem z2P {a:Nat} {A:Int} (e:A=(a:Int)) (h:a<2 ^ 64):IntKind.u64.wrap A=(a:Int):=by rw [z08,e];omega
theorem z4f {a c:Nat} {A C:Int} (eA:A=(a:Int)) (eC:C=(c:Int)) (ha:a<2 ^ 64) (hc:c<2 ^ 64):bits .and .u64 A C=((a &&& c:Nat):Int):=by
 subst eA eC;exact z5c ha hc
theorem zc0 {w D:Nat}:∀ (n x:Nat),DLE w D (n+1) x->x / 2 ^ (w*n) % 2 ^ w<=D
 | 0,x,h=>by simpa using h.1
 | n+1,x,h=>by
   have:=zc0 n (x / 2 ^ w) h.2;rw [Nat.div_div_eq_div_mul,<-Nat.pow_add,show w+w*n=w*(n+1) by rw [Nat.mul_add,Nat.mul_one,Nat.add_comm]] at this;exact this
theorem zhx (y p:Nat) (h:y % 128=p):bits .and .i64 (wrap64 (y:Int)) 127=(p:Int):=by
 rw [ziv];unfold wrap64;omega
theorem z2H (X:Nat) (hX:X<2 ^ 64) (w:World):Calls Tryz.prog 49 #[.int .u64 (X:Int)] w fun e w'=>e=.returned (.int .i64 ((POP X:Nat):Int))/\w=w':=by
 have h1:X1 X<2 ^ 64:=by rw [zcC];exact z5V (k:=1) (by decide) 32 _
 have h2:=zho X;have h3:=zjc X
 have h16:X2 X / 16+X2 X<2 ^ 64:=by
  have ht:=zc0 15 (X2 X) (zcE X);simp only [Nat.reducePow,Nat.reduceMul] at ht h2 ⊢;generalize X2 X=y at *
  omega
 have hl:=zfQ h3 (zjb X);rw [ziA] at hl;have hlt:=hl.2;have hle4:X3 X+X3 X / 256<2 ^ 64:=Nat.lt_of_le_of_lt (by generalize X3 X+X3 X / 256=y;omega) hlt;have hle5:X3 X+X3 X / 256+(X3 X+X3 X / 256) / 65536<2 ^ 64:=Nat.lt_of_le_of_lt (by generalize X3 X+X3 X / 256+(X3 X+X3 X / 256) / 65536=y;omega) hlt;refine zfU X (X1 X:Nat) (X2 X:Nat) (X3 X:Nat) (X3 X+X3 X / 256:Nat) (X3 X+X3 X / 256+(X3 X+X3 X / 256) / 65536:Nat) (X3 X+X3 X / 256+(X3 X+X3 X / 256) / 65536+(X3 X+X3 X / 256+(X3 X+X3 X / 256) / 65536) / 4294967296:Nat) _ w ?_ ?_ ?_ ?_ ?_ ?_ ?_
 ·have a1:bits .and .u64 ((X:Int) / 2) 6148914691236517205=((X / 2 &&& 6148914691236517205:Nat):Int):=z4f (by simp) rfl (by omega) (by decide)
  have a2:bits .and .u64 (X:Int) 6148914691236517205=((X &&& 6148914691236517205:Nat):Int):=z4f rfl rfl hX (by decide);rw [a1,a2];exact z2P (by unfold X1;rw [Int.natCast_add]) h1
 ·have a1:bits .and .u64 (((X1 X:Nat):Int) / 4) 3689348814741910323=((X1 X / 4 &&& 3689348814741910323:Nat):Int):=z4f (by simp) rfl (by omega) (by decide)
  have a2:bits .and .u64 ((X1 X:Nat):Int) 3689348814741910323=((X1 X &&& 3689348814741910323:Nat):Int):=z4f rfl rfl h1 (by decide);rw [a1,a2];exact z2P (by unfold X2;rw [Int.natCast_add]) h2
 ·have a0:IntKind.u64.wrap (((X2 X:Nat):Int) / 16+((X2 X:Nat):Int))=((X2 X / 16+X2 X:Nat):Int):=z2P (by simp) h16
  rw [a0];exact z4f rfl rfl h16 (by decide)
 ·exact z2P (by simp) hle4
 ·exact z2P (by simp) hle5
 ·exact z2P (by simp) hlt
 ·exact zhx _ _ hl.1
theorem z9R (x r:Int) (w:World) (c:∀ w,Calls Tryz.prog 49 #[.int .u64 x] w fun e w'=>e=.returned (.int .i64 r)/\w=w'):
  Calls Tryz.prog 108 #[.int .u64 x] w fun e w'=>e=.returned (.int .i64 r)/\w=w':=by
 go_enter Tryz.func108,Tryz.ntmps108;go_wp2_with fail
 refine (c _).mono ?_;rintro e w' ⟨rfl,rfl⟩;go_wp2;go_ret;exact ⟨rfl,rfl⟩
theorem z80 (X:Nat) (hX:X<2 ^ 64) (w:World):Calls Tryz.prog 108 #[.int .u64 (X:Int)] w fun e w'=>e=.returned (.int .i64 ((POP X:Nat):Int))/\w=w':=
 z9R X _ w (fun w=>z2H X hX w)
theorem z8E:∀ X:Nat,X≠0->∃ t q,X=2 ^ t*(2*q+1):=fun X=>by
 induction X using Nat.strongRecOn with
 | _ X ih=>
   intro h;by_cases ho:X % 2=1
   ·exact ⟨0,X / 2,by omega⟩
   ·obtain ⟨t,q,e⟩:=ih (X / 2) (by omega) (by omega)
    refine ⟨t+1,q,?_⟩;rw [Nat.pow_succ,Nat.mul_comm (2 ^ t) 2,Nat.mul_assoc,<-e];omega
theorem zhy {q s:Nat} (h:2*q+1<2 ^ s):(2*q+1) &&& (2 ^ s - (2*q+1))=1:=by
 apply Nat.eq_of_testBit_eq;intro i;rw [Nat.testBit_and,Nat.testBit_two_pow_sub_succ (by omega)];cases i with
 | zero=>
   have hs:0<s:=by
    rcases Nat.eq_zero_or_pos s with h0 | h0
    ·subst h0
     simp at h
    ·exact h0
   simp [Nat.testBit_zero,hs]
 | succ i=>
   rw [Nat.testBit_succ,Nat.testBit_succ,Nat.testBit_succ,show (2*q+1) / 2=q by omega,show 2*q / 2=q by omega];simp;intro h1 _;exact h1
theorem z81 {X t q:Nat} (hX:X<2 ^ 64) (e:X=2 ^ t*(2*q+1)):X &&& (2 ^ 64 - X)=2 ^ t/\t<64:=by
 have hp:=Nat.two_pow_pos t
 have ht:t<64:=by
  rcases Nat.lt_or_ge t 64 with h | h
  ·exact h
  ·have h1:2 ^ 64<=2 ^ t:=Nat.pow_le_pow_right (by decide) h
   have h2:2 ^ t*1<=2 ^ t*(2*q+1):=Nat.mul_le_mul_left _ (by omega);omega
 have h64:(2:Nat) ^ 64=2 ^ t*2 ^ (64 - t):=by rw [<-Nat.pow_add,show t+(64 - t)=64 by omega]
 have hq:2*q+1<2 ^ (64 - t):=by
  rw [e,h64] at hX;exact Nat.lt_of_mul_lt_mul_left hX
 refine ⟨?_,ht⟩;rw [e,h64,<-Nat.mul_sub,Nat.mul_comm,Nat.mul_comm (2 ^ t),<-Nat.shiftLeft_eq,<-Nat.shiftLeft_eq,<-Nat.shiftLeft_and_distrib,zhy hq,Nat.shiftLeft_eq,Nat.one_mul]
def TAB:List Nat:=[0,1,56,2,57,49,28,3,61,58,42,50,38,29,17,4,62,47,59,36,45,43,51,22,53,39,33,30,24,18,12,5,63,55,48,27,60,41,37,16,46,35,44,21,52,32,23,11,54,26,40,15,34,20,31,10,25,14,19,9,13,8,7,6]
def Tabled (w:World):Prop:=∀ i,i<64->w.cell? ⟨2,i,none⟩=some (.int .u8 ((TAB.getD i 0:Nat):Int))
theorem zhz:∀ t,t<64->TAB.getD (2 ^ t*285870213051353865 % 2 ^ 64 / 2 ^ 58) 0=t:=by decide
theorem zhA (w:World):Calls Tryz.prog 128 #[.int .u64 0] w fun e w'=>e=.returned (.int .i64 64)/\w=w':=by
 go_enter Tryz.func128,Tryz.ntmps128;go_wp2;go_ret;exact ⟨rfl,rfl⟩
theorem ziC (x b p i t:Int) (w:World) (h0:(x == 0)=false) (e1:bits .and .u64 x (IntKind.u64.wrap (-x))=b) (e2:IntKind.u64.wrap (b*285870213051353865)=p) (hi:p / 288230376151711744=i) (hi1:0<=i) (hi2:i<64)
  (hc:w.cell? ⟨2,i.toNat,none⟩=some (.int .u8 t)) (ht:Aside (wrap64 t=t)):Calls Tryz.prog 128 #[.int .u64 x] w fun e w'=>e=.returned (.int .i64 t)/\w=w':=by
 go_enter Tryz.func128,Tryz.ntmps128;go_wp2;go_ret;refine ⟨?_,rfl⟩;rw [show (Value.int .i64 t)=.int .i64 (wrap64 t) by rw [ht.out]];rfl
theorem zhq (X t q:Nat) (hX:X<2 ^ 64) (e:X=2 ^ t*(2*q+1)) (w:World) (hT:Tabled w):Calls Tryz.prog 128 #[.int .u64 (X:Int)] w fun e w'=>e=.returned (.int .i64 (t:Int))/\w=w':=by
 obtain ⟨ha,ht⟩:=z81 hX e
 have hX0:0<X:=by
  rw [e];exact Nat.mul_pos (Nat.two_pow_pos t) (by omega)
 have hm:IntKind.u64.wrap (-(X:Int))=((2 ^ 64 - X:Nat):Int):=by rw [z08];omega
 have hb:bits .and .u64 (X:Int) (IntKind.u64.wrap (-(X:Int)))=((2 ^ t:Nat):Int):=by rw [hm,z5c hX (by omega),ha]
 have hp:IntKind.u64.wrap (((2 ^ t:Nat):Int)*285870213051353865)=((2 ^ t*285870213051353865 % 2 ^ 64:Nat):Int):=by
  rw [z08];generalize 2 ^ t=u;omega
 have hl:2 ^ t*285870213051353865 % 2 ^ 64<2 ^ 64:=Nat.mod_lt _ (by decide);have hi:2 ^ t*285870213051353865 % 2 ^ 64 / 2 ^ 58<64:=Nat.div_lt_of_lt_mul (by omega);have hc:=hT _ hi;rw [zhz t ht] at hc;refine ziC X _ _ ((2 ^ t*285870213051353865 % 2 ^ 64 / 2 ^ 58:Nat):Int) t w (by simp;omega) hb hp ?_ (by omega) (by omega) (by rw [Int.toNat_natCast];exact hc) (by unfold Aside wrap64;omega);generalize 2 ^ t*285870213051353865 % 2 ^ 64=u;omega
theorem z82 (x r:Int) (w:World) (c:Calls Tryz.prog 128 #[.int .u64 x] w fun e w'=>e=.returned (.int .i64 r)/\w=w'):
  Calls Tryz.prog 105 #[.int .u64 x] w fun e w'=>e=.returned (.int .i64 r)/\w=w':=by
 go_enter Tryz.func105,Tryz.ntmps105;go_wp2_with fail
 refine c.mono ?_;rintro e w' ⟨rfl,rfl⟩;go_wp2;go_ret;exact ⟨rfl,rfl⟩
end Go.Proofs.YtdggkbpabjgdfaaGreatDoor
