/- ManyClashes: part 1. -/
import Derived.Below
import Derived.Test.YtobaogpomcocpaaGreatDoorProg
import Derived.WalkKit
import Derived.WalkLawsBesides
import Derived.Deep.RegionHeld3
import Derived.OpenShut
import Derived.Deep.LoopGhost
/- A name. -/
set_option maxRecDepth 100000
open Go.RowKit
namespace Go.Proofs.YtobaogpomcocpaaGreatDoor
abbrev BW (w w' : World) : Prop := Below w.heap.size w w'
@[reducible] def tt : Bool := true
@[reducible] def ff : Bool := false
theorem tkH{ops:Array Oper}{Q:Exit->Act->World->Prop}{S:World->Prop}{fuel:Nat}{lb:List Bool}{l:List Value}{ds:List Deferred}{w:World}(oi:Oper)(v:Value){t:Tmp}(i:Nat)(hQ:∀ c (a:Act) (t:Tmp) (v:Value) w,Q (.panic c) (a.put (some t) v) w->Q (.panic c) a w)(hy:YieldsIf Tryz.prog ops S oi v ⟨l.toArray,ds⟩)(hS:S w)
  (h:wpAnyH Tryz.prog .any ops Q S fuel (lb.set i true).toArray ⟨(l.set t v).toArray,ds⟩ w)(hi:ops[i]?=some oi:=by rfl)(hd:oi.dst=some t:=by rfl)(hs:Region.noSelect ops=true:=by kernel_rfl)(hf:Region.free .any ops lb.toArray i=true:=by kernel_rfl)(hr:(Region.ready .any ops lb.toArray).contains i=true:=by kernel_rfl):
  wpAnyH Tryz.prog .any ops Q S (fuel+1) lb.toArray ⟨l.toArray,ds⟩ w:=by
 refine wpAnyH_take hi hs hf hr (fun c a w h=>by rw[hd] at h;exact hQ _ _ _ _ _ h) hy hS ?_;rw[hd];simpa only[Act.put,List.setIfInBounds_toArray] using h
theorem tkP{ops:Array Oper}{Q:Exit->Act->World->Prop}{S:World->Prop}{fuel:Nat}{lb:List Bool}{l:List Value}{ds:List Deferred}{w:World}(oi:Oper)(v:Value){t:Tmp}(i:Nat)(hQ:∀ c (a:Act) (t:Tmp) (v:Value) w,Q (.panic c) (a.put (some t) v) w->Q (.panic c) a w)(hS:S w)
  (h:wpAnyH Tryz.prog .any ops Q S fuel (lb.set i true).toArray ⟨(l.set t v).toArray,ds⟩ w)(hy:YieldsIf Tryz.prog ops S oi v ⟨l.toArray,ds⟩:=by exact Yields.yieldsIf (Or.inl ⟨by rfl,fun W=>by go_simp⟩))(hi:ops[i]?=some oi:=by rfl)(hd:oi.dst=some t:=by rfl)(hs:Region.noSelect ops=true:=by kernel_rfl)(hf:Region.free .any ops lb.toArray i=true:=by kernel_rfl)(hr:(Region.ready .any ops lb.toArray).contains i=true:=by kernel_rfl):
  wpAnyH Tryz.prog .any ops Q S (fuel+1) lb.toArray ⟨l.toArray,ds⟩ w:=by
 refine wpAnyH_take hi hs hf hr (fun c a w h=>by rw[hd] at h;exact hQ _ _ _ _ _ h) hy hS ?_;rw[hd];simpa only[Act.put,List.setIfInBounds_toArray] using h
theorem tkB{ops:Array Oper}{Q:Exit->Act->World->Prop}{fuel:Nat}{lb:List Bool}{l:List Value}{ds:List Deferred}{w:World}(oi:Oper)(v:Value){t:Tmp}(i:Nat)(hQ:∀ c (a:Act) (t:Tmp) (v:Value) w,Q (.panic c) (a.put (some t) v) w->Q (.panic c) a w)
  (h:wpAny Tryz.prog .any ops Q fuel (lb.set i true).toArray ⟨(l.set t v).toArray,ds⟩ w)(hy:Yields Tryz.prog ops oi v ⟨l.toArray,ds⟩:=by exact Or.inl ⟨by rfl,fun W=>by go_simp⟩)(hi:ops[i]?=some oi:=by rfl)(hd:oi.dst=some t:=by rfl)(hs:Region.noSelect ops=true:=by kernel_rfl)(hf:Region.free .any ops lb.toArray i=true:=by kernel_rfl)(hr:(Region.ready .any ops lb.toArray).contains i=true:=by kernel_rfl):
  wpAny Tryz.prog .any ops Q (fuel+1) lb.toArray ⟨l.toArray,ds⟩ w:=by
 refine wpAny_take hi hs hf hr (fun c a w h=>by rw[hd] at h;exact hQ _ _ _ _ _ h) hy ?_;rw[hd];simpa only[Act.put,List.setIfInBounds_toArray] using h
def SHL(x:Nat)(n:Int):Nat:=if n<0 then x / 2 ^ (-n).toNat else x*2 ^ n.toNat % 2 ^ 64
def SHR(x:Nat)(n:Int):Nat:=if n<0 then x*2 ^ (-n).toNat % 2 ^ 64 else x / 2 ^ n.toNat
def MASK(n:Int):Nat:=2 ^ min n.toNat 64 - 1
theorem XT{x:Nat}(hx:x<2 ^ 64)(n:Int):SHL x n<2 ^ 64:=by
 unfold SHL;split
 ·exact Nat.lt_of_le_of_lt (Nat.div_le_self _ _) hx
 ·exact Nat.mod_lt _ (by decide)
theorem Z3{x:Int}(h:(Lit.int .u64 x).wf=true):0<=x/\x<2 ^ 64:=by
 have:=bounds_u64 h;omega
theorem ue{x k:Nat}(hx:x<2 ^ 64)(h:64<=k):x / 2 ^ k=0:=
 Nat.div_eq_of_lt (Nat.lt_of_lt_of_le hx (Nat.pow_le_pow_right (by decide) h))
theorem uf{x:Nat}(hx:x<2 ^ 64)(k:Nat):x / 2 ^ min k 64=x / 2 ^ k:=by
 by_cases h:k<=64
 ·rw[Nat.min_eq_left h]
 ·rw[Nat.min_eq_right (by omega),ue hx (Nat.le_refl _),ue hx (by omega)]
theorem ug(x k:Nat):x*2 ^ min k 64 % 2 ^ 64=x*2 ^ k % 2 ^ 64:=by
 by_cases h:k<=64
 ·rw[Nat.min_eq_left h]
 ·rw[Nat.min_eq_right (by omega),show k=64+(k - 64) by omega,Nat.pow_add,Nat.mul_mod_left,<-Nat.mul_assoc,Nat.mul_right_comm,Nat.mul_mod_left]
theorem zh(z:Int):IntKind.u64.wrap z=z % 2 ^ 64:=by rw[IntKind.wrap_u64];rfl
theorem J3(n:Int)(h0 : -(2 ^ 63)<=n)(h:n<0):(IntKind.u64.wrap (-IntKind.u64.wrap n)).toNat=(-n).toNat:=by
 rw[zh,zh];omega
theorem X8(n:Int)(h0:n<2 ^ 63)(h:¬ n<0):(IntKind.u64.wrap n).toNat=n.toNat:=by
 rw[zh];omega
theorem js(X k:Nat):(X:Int) / 2 ^ k=((X / 2 ^ k:Nat):Int):=by simp
theorem Y7(X k:Nat):IntKind.u64.wrap ((X:Int)*2 ^ k)=((X*2 ^ k % 2 ^ 64:Nat):Int):=by rw[zh];simp
theorem KH{X:Nat}(hX:X<2 ^ 64){n:Int}(h0 : -(2 ^ 63)<=n)(h1:n<2 ^ 63):
  (if n<0 then (X:Int) / 2 ^ min (IntKind.u64.wrap (-IntKind.u64.wrap n)).toNat 64 else IntKind.u64.wrap ((X:Int)*2 ^ min (IntKind.u64.wrap n).toNat 64))=((SHL X n:Nat):Int):=by
 unfold SHL;split
 ·rename_i h
  rw[J3 n h0 h,js,uf hX]
 ·rename_i h
  rw[X8 n h1 h,Y7,ug]
theorem J4{X:Nat}(hX:X<2 ^ 64){n:Int}(h0 : -(2 ^ 63)<=n)(h1:n<2 ^ 63):
  (if n<0 then IntKind.u64.wrap ((X:Int)*2 ^ min (IntKind.u64.wrap (-IntKind.u64.wrap n)).toNat 64) else (X:Int) / 2 ^ min (IntKind.u64.wrap n).toNat 64)=((SHR X n:Nat):Int):=by
 unfold SHR;split
 ·rename_i h
  rw[J3 n h0 h,Y7,ug]
 ·rename_i h
  rw[X8 n h1 h,js,uf hX]
theorem ko{n:Int}(h1:n<2 ^ 63):
  (if n<=0 then 0 else IntKind.u64.wrap (IntKind.u64.wrap (1*2 ^ min (IntKind.u64.wrap n).toNat 64) - 1))=((MASK n:Nat):Int):=by
 unfold MASK;split
 ·rename_i h
  rw[show n.toNat=0 by omega];rfl
 ·rename_i h
  rw[X8 n h1 (by omega)];have e:(1:Int)*2 ^ min n.toNat 64=((2 ^ min n.toNat 64:Nat):Int):=by simp
  rw[e,zh,zh];have h1:2 ^ min n.toNat 64<=2 ^ 64:=Nat.pow_le_pow_right (by decide) (Nat.min_le_right _ _);have h2:0<2 ^ min n.toNat 64:=Nat.two_pow_pos _;generalize 2 ^ min n.toNat 64=p at *
  omega
theorem Z4{a b:Nat}(ha:a<2 ^ 64)(hb:b<2 ^ 64):bits .and .u64 (a:Int) (b:Int)=((a &&& b:Nat):Int):=bits_and_u64_nat a b ha hb
theorem X9{a b:Nat}(ha:a<2 ^ 64)(hb:b<2 ^ 64):bits .or .u64 (a:Int) (b:Int)=((a ||| b:Nat):Int):=bits_or_u64_nat a b ha hb
theorem kq(n:Int):(BitVec.ofInt 64 n).toNat=(n % 2 ^ 64).toNat:=by simp[BitVec.toNat_ofInt]
theorem z1Z(n:Int):bits .and .i64 n 127=n % 128:=by
 show IntKind.i64.wrap ((BitVec.ofInt 64 n &&& BitVec.ofInt 64 127).toNat:Int)=_;have h7:(BitVec.ofInt 64 127).toNat=127:=by decide
 rw[BitVec.toNat_and,kq,h7,nat_mask7,IntKind.wrap_i64];omega
def DSUM(w:Nat):Nat->Nat->Nat
 | 0,_=>0
 | n+1,x=>x % 2 ^ w+DSUM w n (x / 2 ^ w)
def MSK(k:Nat):Nat->Nat
 | 0=>0
 | n+1=>(2 ^ k - 1)+2 ^ (2*k)*MSK k n
def ADDF(k:Nat):Nat->Nat->Nat
 | 0,_=>0
 | n+1,x=>(x % 2 ^ k+x / 2 ^ k % 2 ^ k)+2 ^ (2*k)*ADDF k n (x / 2 ^ (2*k))
def DLE(w D:Nat):Nat->Nat->Prop
 | 0,_=>True
 | n+1,x=>x % 2 ^ w<=D/\DLE w D n (x / 2 ^ w)
theorem vC(b q r s t:Nat)(hr:r<2 ^ b)(hs:s<2 ^ b):(r+2 ^ b*q) &&& (s+2 ^ b*t)=(r &&& s)+2 ^ b*(q &&& t):=by
 rw[Nat.add_comm r,Nat.add_comm s,Nat.add_comm (r &&& s)];apply Nat.eq_of_testBit_eq;intro i;have hrs:r &&& s<2 ^ b:=Nat.lt_of_le_of_lt Nat.and_le_left hr;rw[Nat.testBit_and,Nat.testBit_two_pow_mul_add _ hr,Nat.testBit_two_pow_mul_add _ hs,Nat.testBit_two_pow_mul_add _ hrs];split
 ·rw[Nat.testBit_and]
 ·rw[Nat.testBit_and]
theorem xh(k:Nat):2 ^ (2*k)=2 ^ k*2 ^ k:=by rw[Nat.two_mul,Nat.pow_add]
theorem Ua(k:Nat):2 ^ k - 1<2 ^ (2*k):=by
 have h1:2 ^ k<=2 ^ (2*k):=Nat.pow_le_pow_right (by decide) (by omega);have h2:=Nat.two_pow_pos k;omega
theorem z20(k x:Nat):x=x % 2 ^ (2*k)+2 ^ (2*k)*(x / 2 ^ (2*k)):=(Nat.mod_add_div _ _).symm
theorem Me(k x:Nat):x % 2 ^ (2*k) % 2 ^ k=x % 2 ^ k:=Nat.mod_mod_of_dvd _ ⟨2 ^ k,xh k⟩
theorem uh(k:Nat):∀ (n x:Nat),x &&& MSK k (n+1)=x % 2 ^ k+2 ^ (2*k)*(x / 2 ^ (2*k) &&& MSK k n):=fun n x=>by
 conv=>lhs;rw[z20 k x]
 show _ &&& ((2 ^ k - 1)+2 ^ (2*k)*MSK k n)=_;rw[vC _ _ _ _ _ (Nat.mod_lt _ (Nat.two_pow_pos _)) (Ua k),Nat.and_two_pow_sub_one_eq_mod,Me]
theorem Mf(k x:Nat):x / 2 ^ k / 2 ^ (2*k)=x / 2 ^ (2*k) / 2 ^ k:=by rw[Nat.div_div_eq_div_mul,Nat.div_div_eq_div_mul,Nat.mul_comm]
theorem Xw(k:Nat):∀ (n x:Nat),(x / 2 ^ k &&& MSK k n)+(x &&& MSK k n)=ADDF k n x
 | 0,x=>by simp[MSK,ADDF]
 | n+1,x=>by
   rw[uh,uh,Mf,ADDF,<-Xw k n (x / 2 ^ (2*k)),Nat.mul_add];omega
theorem KI{k:Nat}(hk:1<=k):2<=2 ^ k:=Nat.le_trans (by decide) (Nat.pow_le_pow_right (n:=2) (by decide) hk)
theorem Xx{k:Nat}(hk:1<=k)(x:Nat):x % 2 ^ k+x / 2 ^ k % 2 ^ k<2 ^ (2*k):=by
 have h1:=Nat.mod_lt x (Nat.two_pow_pos k);have h2:=Nat.mod_lt (x / 2 ^ k) (Nat.two_pow_pos k);have h3:2*2 ^ k<=2 ^ k*2 ^ k:=Nat.mul_le_mul_right _ (KI hk);rw[xh];omega
theorem Vn{k:Nat}(hk:1<=k)(n x:Nat):ADDF k (n+1) x % 2 ^ (2*k)=x % 2 ^ k+x / 2 ^ k % 2 ^ k:=by
 rw[ADDF,Nat.add_mul_mod_self_left,Nat.mod_eq_of_lt (Xx hk x)]
theorem vD{k:Nat}(hk:1<=k)(n x:Nat):ADDF k (n+1) x / 2 ^ (2*k)=ADDF k n (x / 2 ^ (2*k)):=by
 rw[ADDF,Nat.add_mul_div_left _ _ (Nat.two_pow_pos _),Nat.div_eq_of_lt (Xx hk x),Nat.zero_add]
theorem Zm{k:Nat}(hk:1<=k):∀ (n x:Nat),DSUM (2*k) n (ADDF k n x)=DSUM k (2*n) x
 | 0,x=>rfl
 | n+1,x=>by
   rw[DSUM,Vn hk,vD hk,Zm hk n,show 2*(n+1)=2*n+1+1 by omega,DSUM,DSUM,Nat.div_div_eq_div_mul,<-xh];omega
theorem Zy{k D:Nat}(hk:1<=k):∀ (n x:Nat),DLE k D (2*n) x->DLE (2*k) (2*D) n (ADDF k n x)
 | 0,_,_=>trivial
 | n + 1,x,h=>by
   rw[show 2*(n+1)=2*n+1+1 by omega] at h;obtain⟨h1,h2,h3⟩:=h;refine⟨?_,?_⟩
   ·rw[Vn hk]
    omega
   ·rw[vD hk]
    refine Zy hk n _ ?_;rw[Nat.div_div_eq_div_mul,<-xh] at h3;exact h3
theorem Vo:∀ (n x:Nat),DLE 1 1 n x
 | 0,_=>trivial
 | n+1,_=>⟨by omega,Vo n _⟩
theorem vE{k D:Nat}(hk:1<=k)(hD:2*D<2 ^ k):∀ (n x:Nat),x<2 ^ (2*k*n)->DLE k D (2*n) x->(x / 2 ^ k+x) &&& MSK k n=ADDF k n x
 | 0,x,_,_=>by simp[MSK,ADDF]
 | n + 1,x,hx,h=>by
   rw[show 2*(n+1)=2*n+1+1 by omega] at h;obtain⟨h1,h2,h3⟩:=h;rw[Nat.div_div_eq_div_mul,<-xh] at h3;have hq:x / 2 ^ (2*k)<2 ^ (2*k*n):=Nat.div_lt_of_lt_mul (by rw[<-Nat.pow_add,show 2*k+2*k*n=2*k*(n+1) by rw[Nat.mul_add,Nat.mul_one,Nat.add_comm]];exact hx);have ih:=vE hk hD n (x / 2 ^ (2*k)) hq h3
   have hq0:x / 2 ^ (2*k) % 2 ^ k<=D:=by
    cases n with
    | zero=>
      have:x / 2 ^ (2*k)=0:=by simpa using hq
      rw[this];simp
    | succ n=>exact h3.1
   have hp:=Nat.two_pow_pos k
   have e1:x=x % 2 ^ k+2 ^ k*(x / 2 ^ k % 2 ^ k)+2 ^ k*2 ^ k*(x / 2 ^ (2*k)):=by
    have a:=(Nat.mod_add_div x (2 ^ k)).symm;have b:=(Nat.mod_add_div (x / 2 ^ k) (2 ^ k)).symm;rw[Nat.div_div_eq_div_mul,<-xh] at b;conv=>lhs;rw[a,b]
    rw[Nat.mul_add,<-Nat.mul_assoc,Nat.add_assoc]
   have e2:x / 2 ^ k=x / 2 ^ k % 2 ^ k+2 ^ k*(x / 2 ^ (2*k) % 2 ^ k)+2 ^ k*2 ^ k*(x / 2 ^ (2*k) / 2 ^ k):=by
    have a:=(Nat.mod_add_div (x / 2 ^ k) (2 ^ k)).symm;rw[Nat.div_div_eq_div_mul,<-xh] at a;have b:=(Nat.mod_add_div (x / 2 ^ (2*k)) (2 ^ k)).symm;conv=>lhs;rw[a,b]
    rw[Nat.mul_add,<-Nat.mul_assoc,Nat.add_assoc]
   have e3:x / 2 ^ k+x=(x % 2 ^ k+x / 2 ^ k % 2 ^ k+2 ^ k*(x / 2 ^ k % 2 ^ k+x / 2 ^ (2*k) % 2 ^ k))+2 ^ (2*k)*(x / 2 ^ (2*k) / 2 ^ k+x / 2 ^ (2*k)):=by
    conv=>lhs;rw[e2];arg 2;rw[e1]
    rw[xh,Nat.mul_add,Nat.mul_add];omega
   have hlow:x % 2 ^ k+x / 2 ^ k % 2 ^ k+2 ^ k*(x / 2 ^ k % 2 ^ k+x / 2 ^ (2*k) % 2 ^ k)<2 ^ (2*k):=by
    have h4:2 ^ k*(x / 2 ^ k % 2 ^ k+x / 2 ^ (2*k) % 2 ^ k)<=2 ^ k*(2 ^ k - 1):=Nat.mul_le_mul_left _ (by omega);rw[Nat.mul_sub,Nat.mul_one] at h4;have h5:2 ^ k<=2 ^ k*2 ^ k:=Nat.le_mul_of_pos_left _ hp;have h6:=xh k;generalize 2 ^ k*(x / 2 ^ k % 2 ^ k+x / 2 ^ (2*k) % 2 ^ k)=y at h4;generalize x / 2 ^ (2*k) % 2 ^ k=z at *
    generalize 2 ^ k*2 ^ k=u at *
    generalize 2 ^ (2*k)=v at *
    omega
   rw[e3];show _ &&& ((2 ^ k - 1)+2 ^ (2*k)*MSK k n)=_;rw[vC _ _ _ _ _ hlow (Ua k),Nat.and_two_pow_sub_one_eq_mod,ih,Nat.add_mul_mod_self_left,Nat.mod_eq_of_lt (by omega),ADDF]
def POP(X:Nat):Nat:=DSUM 1 64 X
theorem z2B:MSK 1 32=6148914691236517205:=by decide
theorem z2C:MSK 2 16=3689348814741910323:=by decide
theorem z2D:MSK 4 8=1085102592571150095:=by decide
theorem ZN{k:Nat}(hk:1<=k):∀ (n x:Nat),ADDF k n x<2 ^ (2*k*n)
 | 0,_=>by simp[ADDF]
 | n+1,x=>by
   have h1:=ZN hk n (x / 2 ^ (2*k));have h2:=Xx hk x;rw[ADDF,show 2*k*(n+1)=2*k*n+2*k by rw[Nat.mul_add,Nat.mul_one],Nat.pow_add];have h3:2 ^ (2*k)*ADDF k n (x / 2 ^ (2*k))<=2 ^ (2*k)*(2 ^ (2*k*n) - 1):=Nat.mul_le_mul_left _ (by omega);rw[Nat.mul_sub,Nat.mul_one,Nat.mul_comm _ (2 ^ (2*k*n))] at h3;have h4:2 ^ (2*k)<=2 ^ (2*k*n)*2 ^ (2*k):=Nat.le_mul_of_pos_left _ (Nat.two_pow_pos _);omega
theorem Xy{a b q:Nat}(h:b<a):(b+a*q) / a=q:=by rw[Nat.add_mul_div_left _ _ (by omega),Nat.div_eq_of_lt h,Nat.zero_add]
theorem z21{d0 d1 d2 x R1 R2 R3:Nat}(e0:x=d0+256*R1)(e1:R1=d1+256*R2)(e2:R2=d2+256*R3):x+R1=(d0+d1+256*(d1+d2))+65536*(R2+R3):=by
 subst e0 e1 e2;omega
theorem z22{d0 d1 d2 d3 d4 d5 d6 d7 x R1 R2 R3 R4 R5 R6:Nat}(e0:x=d0+256*R1)(e1:R1=d1+256*R2)(e2:R2=d2+256*R3)(e3:R3=d3+256*R4)(e4:R4=d4+256*R5)(e5:R5=d5+256*R6)(e6:R6=d6+256*d7):
  x+R1+(R2+R3)=(d0+d1+d2+d3+256*(d1+d2+d3+d4)+65536*(d2+d3+d4+d5)+16777216*(d3+d4+d5+d6))+4294967296*(R4+R5+R6+d7):=by
 subst e0 e1 e2 e3 e4 e5 e6;omega
theorem z23{d0 d1 d2 d3 d4 d5 d6 d7 x R1 R2 R3 R4 R5 R6:Nat}(e0:x=d0+256*R1)(e1:R1=d1+256*R2)(e2:R2=d2+256*R3)(e3:R3=d3+256*R4)(e4:R4=d4+256*R5)(e5:R5=d5+256*R6)(e6:R6=d6+256*d7):
  x+R1+(R2+R3)+(R4+R5+R6+d7)=(d0+(d1+(d2+(d3+(d4+(d5+(d6+d7)))))))+128*(2*(R1+R2+R3+R4+R5+R6+d7)):=by
 rw[e0]
 have h:R1+(R2+R3)+(R4+R5+R6+d7)=(d1+256*R2)+((d2+256*R3)+(d3+256*R4))+((d4+256*R5)+(d5+256*R6)+(d6+256*d7)+d7):=by
  rw[<-e1,<-e2,<-e3,<-e4,<-e5,<-e6]
 clear e0 e1 e2 e3 e4 e5 e6;omega
theorem qf{d7 d6 R6:Nat}{B:Nat}(e6:R6=d6+256*d7)(h6:d6<=8)(h7:d7<=B):R6<=8+256*B:=by
 subst e6;omega
theorem Mg{d0 d1 d2:Nat}(h0:d0<=8)(h1:d1<=8)(h2:d2<=8):d0+d1+256*(d1+d2)<65536:=by omega
theorem Mh{d0 d1 d2 d3 d4 d5 d6:Nat}(h0:d0<=8)(h1:d1<=8)(h2:d2<=8)(h3:d3<=8)(h4:d4<=8)(h5:d5<=8)(h6:d6<=8):d0+d1+d2+d3+256*(d1+d2+d3+d4)+65536*(d2+d3+d4+d5)+16777216*(d3+d4+d5+d6)<4294967296:=by omega
theorem Mi{d0 d1 d2 d3 d4 d5 d6 d7:Nat}(h0:d0<=8)(h1:d1<=8)(h2:d2<=8)(h3:d3<=8)(h4:d4<=8)(h5:d5<=8)(h6:d6<=8)(h7:d7<=8):d0+(d1+(d2+(d3+(d4+(d5+(d6+d7))))))<128:=by omega
theorem z0V{x R1 R2 R3 R4 R5 R6 d7:Nat}(h7:d7<=8)(b6:R6<=8+256*8)(b5:R5<=8+256*(8+256*8))(b4:R4<=8+256*(8+256*(8+256*8)))(b3:R3<=8+256*(8+256*(8+256*(8+256*8))))(b2:R2<=8+256*(8+256*(8+256*(8+256*(8+256*8)))))(b1:R1<=8+256*(8+256*(8+256*(8+256*(8+256*(8+256*8))))))(b0:x<=8+256*(8+256*(8+256*(8+256*(8+256*(8+256*(8+256*8))))))):
 x+R1+(R2+R3)+(R4+R5+R6+d7)<2 ^ 64:=by omega
theorem KJ(d0 d1 d2 d3 d4 d5 d6 d7:Nat)(h0:d0<=8)(h1:d1<=8)(h2:d2<=8)(h3:d3<=8)(h4:d4<=8)(h5:d5<=8)(h6:d6<=8)(h7:d7<=8)(x R1 R2 R3 R4 R5 R6:Nat)
  (e0:x=d0+256*R1)(e1:R1=d1+256*R2)(e2:R2=d2+256*R3)(e3:R3=d3+256*R4)(e4:R4=d4+256*R5)(e5:R5=d5+256*R6)(e6:R6=d6+256*d7):
  (x+x / 256+(x+x / 256) / 65536+(x+x / 256+(x+x / 256) / 65536) / 4294967296) % 128=d0+(d1+(d2+(d3+(d4+(d5+(d6+d7))))))/\x+x / 256+(x+x / 256) / 65536+(x+x / 256+(x+x / 256) / 65536) / 4294967296<2 ^ 64:=by
 have q1:x / 256=R1:=by rw[e0];exact Xy (Nat.lt_of_le_of_lt h0 (by decide))
 have q2:(x+R1) / 65536=R2+R3:=by rw[z21 e0 e1 e2];exact Xy (Mg h0 h1 h2)
 have q3:(x+R1+(R2+R3)) / 4294967296=R4+R5+R6+d7:=by rw[z22 e0 e1 e2 e3 e4 e5 e6];exact Xy (Mh h0 h1 h2 h3 h4 h5 h6)
 rw[q1,q2,q3];have b6:=qf e6 h6 h7;have b5:=qf e5 h5 b6;have b4:=qf e4 h4 b5;have b3:=qf e3 h3 b4;have b2:=qf e2 h2 b3;have b1:=qf e1 h1 b2;have b0:=qf e0 h0 b1;refine⟨?_,z0V h7 b6 b5 b4 b3 b2 b1 b0⟩;rw[z23 e0 e1 e2 e3 e4 e5 e6,Nat.add_mul_mod_self_left,Nat.mod_eq_of_lt (Mi h0 h1 h2 h3 h4 h5 h6 h7)]
theorem Mj{x:Nat}(hx:x<2 ^ 64)(h:DLE 8 8 8 x):(x+x / 256+(x+x / 256) / 65536+(x+x / 256+(x+x / 256) / 65536) / 4294967296) % 128=DSUM 8 8 x/\x+x / 256+(x+x / 256) / 65536+(x+x / 256+(x+x / 256) / 65536) / 4294967296<2 ^ 64:=by
 obtain⟨h0,h1,h2,h3,h4,h5,h6,h7,_⟩:=h;simp only[DSUM,Nat.add_zero];simp only[Nat.reducePow] at *
 have l7:x / 256 / 256 / 256 / 256 / 256 / 256 / 256<256:=by
  have e:x / 256 / 256 / 256 / 256 / 256 / 256 / 256=x / 72057594037927936:=by simp only[Nat.div_div_eq_div_mul]
  rw[e];exact Nat.div_lt_of_lt_mul hx
 rw[Nat.mod_eq_of_lt l7] at h7 ⊢
 exact KJ _ _ _ _ _ _ _ _ h0 h1 h2 h3 h4 h5 h6 h7 x (x / 256) (x / 256 / 256) (x / 256 / 256 / 256) (x / 256 / 256 / 256 / 256) (x / 256 / 256 / 256 / 256 / 256) (x / 256 / 256 / 256 / 256 / 256 / 256)
  (Nat.mod_add_div _ _).symm (Nat.mod_add_div _ _).symm (Nat.mod_add_div _ _).symm (Nat.mod_add_div _ _).symm (Nat.mod_add_div _ _).symm (Nat.mod_add_div _ _).symm (Nat.mod_add_div _ _).symm
def X1(X:Nat):Nat:=(X / 2 &&& 6148914691236517205)+(X &&& 6148914691236517205)
def X2(X:Nat):Nat:=(X1 X / 4 &&& 3689348814741910323)+(X1 X &&& 3689348814741910323)
def X3(X:Nat):Nat:=(X2 X / 16+X2 X) &&& 1085102592571150095
theorem Ja(X:Nat):X1 X=ADDF 1 32 X:=by
 have:=Xw 1 32 X;rw[z2B] at this;exact this
theorem Jb(X:Nat):X2 X=ADDF 2 16 (X1 X):=by
 have:=Xw 2 16 (X1 X);rw[z2C] at this;exact this
theorem Jc(X:Nat):DLE 4 4 16 (X2 X):=by
 rw[Jb];refine Zy (k:=2) (D:=2) (by decide) 16 _ ?_;rw[Ja];exact Zy (k:=1) (D:=1) (by decide) 32 _ (Vo 64 X)
theorem Up(X:Nat):X2 X<2 ^ 64:=by
 rw[Jb];exact ZN (k:=2) (by decide) 16 _
theorem Jd(X:Nat):X3 X=ADDF 4 8 (X2 X):=by
 have:=vE (k:=4) (D:=4) (by decide) (by decide) 8 (X2 X) (Up X) (Jc X);rw[z2D] at this;exact this
theorem z2E(X:Nat):DLE 8 8 8 (X3 X):=by
 rw[Jd];exact Zy (k:=4) (D:=4) (by decide) 8 _ (Jc X)
theorem z2F(X:Nat):X3 X<2 ^ 64:=by
 rw[Jd];exact ZN (k:=4) (by decide) 8 _
theorem z24(X:Nat):DSUM 8 8 (X3 X)=POP X:=by
 rw[Jd];have a:=Zm (k:=4) (by decide) 8 (X2 X);have b:=Zm (k:=2) (by decide) 16 (X1 X);have c:=Zm (k:=1) (by decide) 32 X;rw[<-Jb] at b;rw[<-Ja] at c;exact a.trans (b.trans c)
def PCF:Nat->Nat->Nat
 | 0,_=>0
 | f+1,n=>n % 2+PCF f (n / 2)
def PC(n:Nat):Nat:=PCF n n
theorem jt:∀ f,PCF f 0=0
 | 0=>rfl
 | f+1=>by
   show 0 % 2+PCF f (0 / 2)=0;rw[show 0 / 2=0 from rfl,jt f]
theorem Y8:∀ f g n,n<=f->n<=g->PCF f n=PCF g n
 | 0,g,n,h,_=>by
   have h0:n=0:=by omega
   subst h0;rw[jt,jt]
 | f+1,0,n,_,h=>by
   have h0:n=0:=by omega
   subst h0;rw[jt,jt]
 | f+1,g+1,n,h1,h2=>by
   show n % 2+PCF f (n / 2)=n % 2+PCF g (n / 2);rw[Y8 f g (n / 2) (by omega) (by omega)]
theorem yG:PC 0=0:=rfl
theorem zT(n:Nat):PC n=n % 2+PC (n / 2):=by
 show PCF n n=n % 2+PCF (n / 2) (n / 2);rw[Y8 n (n+1) n (Nat.le_refl n) (Nat.le_succ n)];show n % 2+PCF n (n / 2)=n % 2+PCF (n / 2) (n / 2);rw[Y8 n (n / 2) (n / 2) (by omega) (Nat.le_refl _)]
theorem Xz(m:Nat):PC (2*m)=PC m:=by
 rw[zT,show 2*m % 2=0 by omega,show 2*m / 2=m by omega,Nat.zero_add]
theorem jK(m:Nat):PC (2*m+1)=PC m+1:=by
 rw[zT,show (2*m+1) % 2=1 by omega,show (2*m+1) / 2=m by omega,Nat.add_comm]
theorem Ub:PC 1=1:=by rw[show (1:Nat)=2*0+1 from rfl,jK,yG]
theorem z2G(n:Nat):PC n<=n:=by
 induction n using Nat.strongRecOn with
 | _ n ih=>
   by_cases h:n=0
   ·subst h
    rw[yG];omega
   ·have:=ih (n / 2) (by omega)
    rw[zT];omega
theorem Z6(h:Nat):∀ k r,r<2 ^ h->PC (k*2 ^ h+r)=PC k+PC r:=by
 induction h with
 | zero=>
   intro k r hr;have:r=0:=by simpa using hr
   subst this;rw[yG];simp
 | succ h ih=>
   intro k r hr;rw[Nat.pow_succ] at hr
   have e:k*2 ^ (h+1)+r=2*(k*2 ^ h+r / 2)+r % 2:=by
    rw[Nat.pow_succ,<-Nat.mul_assoc];omega
   have hr2:r / 2<2 ^ h:=by omega
   rcases Nat.mod_two_eq_zero_or_one r with h0 | h0
   ·rw[e,h0,Nat.add_zero,Xz,ih _ _ hr2,zT r,h0]
    omega
   ·rw[e,h0,jK,ih _ _ hr2,zT r,h0]
    omega
theorem Zz(h k:Nat):PC (k*2 ^ h)=PC k:=by
 have:=Z6 h k 0 (Nat.two_pow_pos h);rw[yG] at this;exact this
theorem z25(h:Nat):PC (2 ^ h)=1:=by
 have:=Zz h 1;rw[Nat.one_mul,Ub] at this;exact this
theorem ui:∀ h,PC (2 ^ h - 1)=h
 | 0=>yG
 | h+1=>by
   have hp:=Nat.two_pow_pos h;rw[show 2 ^ (h+1) - 1=2*(2 ^ h - 1)+1 by rw[Nat.pow_succ];omega,jK,ui h]
theorem z0W(n:Nat):PC (n+1)<=PC n+1:=by
 induction n using Nat.strongRecOn with
 | _ n ih=>
   rcases Nat.mod_two_eq_zero_or_one n with h | h
   ·rw[zT (n+1),zT n,show (n+1) / 2=n / 2 by omega]
    omega
   ·have:=ih (n / 2) (by omega)
    rw[zT (n+1),zT n,show (n+1) / 2=n / 2+1 by omega];omega
theorem yC(h:Nat):∀ n,n<2 ^ h->PC n<=h:=by
 induction h with
 | zero=>
   intro n hn;have:n=0:=by simpa using hn
   subst this;rw[yG];omega
 | succ h ih=>
   intro n hn;rw[Nat.pow_succ] at hn;have:=ih (n / 2) (by omega);rw[zT];omega
theorem uj:∀ k X,X<2 ^ k->DSUM 1 k X=PC X
 | 0,X,h=>by
   have:X=0:=by simpa using h
   subst this;rw[yG];rfl
 | k+1,X,h=>by
   rw[Nat.pow_succ] at h;rw[zT,<-uj k (X / 2) (by omega)];simp[DSUM]
theorem Uc{X:Nat}(h:X<2 ^ 64):POP X=PC X:=uj 64 X h
def zz(n:Nat):Nat:=2*n - PC n
theorem xd(n:Nat):zz n+PC n=2*n:=by
 have:=z2G n;unfold zz;omega
theorem YA(n:Nat):zz n=n+zz (n / 2):=by
 have h1:=xd n;have h2:=xd (n / 2);rw[zT] at h1;omega
theorem YB:zz 0=0:=by unfold zz;rw[yG]
theorem Mk{n m:Nat}(h:n<m):zz n<zz m:=by
 induction m with
 | zero=>omega
 | succ m ih=>
   have h1:=xd m;have h2:=xd (m+1);have h3:=z0W m;rcases Nat.lt_or_ge n m with h4 | h4
   ·have:=ih h4
    omega
   ·obtain rfl:n=m:=by omega
    omega
theorem Ml{n m:Nat}(h:n<=m):zz n<=zz m:=by
 rcases Nat.lt_or_ge n m with h1 | h1
 ·exact Nat.le_of_lt (Mk h1)
 ·obtain rfl:n=m:=by omega
  exact Nat.le_refl _
theorem Mm(n:Nat):n<=zz n:=by
 rw[YA];omega
def TREE(h:Nat):Nat:=2 ^ (h+1) - 1
def PLC(h k:Nat):Nat:=zz (k*2 ^ h)+(2 ^ (h+1) - 2)
theorem xj(h:Nat):2<=2 ^ (h+1):=by
 have:=Nat.two_pow_pos h;rw[Nat.pow_succ];omega
theorem xl(h k:Nat):PLC h k+2+PC k=2 ^ (h+1)*(k+1):=by
 have h1:=xd (k*2 ^ h);have h2:=xj h;rw[Zz] at h1;unfold PLC;rw[Nat.mul_add,Nat.mul_one,show 2 ^ (h+1)*k=2*(k*2 ^ h) by rw[Nat.pow_succ,Nat.mul_comm (2 ^ h) 2,Nat.mul_assoc,Nat.mul_comm k]];omega
theorem z0X(h k:Nat):1<=(k+1)*2 ^ h:=Nat.mul_pos (by omega) (Nat.two_pow_pos h)
theorem Mn(h k:Nat):zz ((k+1)*2 ^ h - 1)+h=PLC h k:=by
 have hp:=Nat.two_pow_pos h
 have e:(k+1)*2 ^ h - 1=k*2 ^ h+(2 ^ h - 1):=by
  rw[Nat.add_mul,Nat.one_mul];omega
 have h1:=xd (k*2 ^ h+(2 ^ h - 1));rw[Z6 h k _ (by omega),ui] at h1;have h2:=xl h k;rw[e];rw[Nat.mul_add,Nat.mul_one,show 2 ^ (h+1)*k=2*(k*2 ^ h) by rw[Nat.pow_succ,Nat.mul_comm (2 ^ h) 2,Nat.mul_assoc,Nat.mul_comm k],Nat.pow_succ] at h2;omega
theorem kr(h m:Nat):PLC (h+1) m=PLC h (2*m)+2 ^ (h+1):=by
 have h1:=xl (h+1) m;have h2:=xl h (2*m);rw[Xz] at h2
 have e:2 ^ (h+1+1)*(m+1)=2 ^ (h+1)*(2*m+1)+2 ^ (h+1):=by
  rw[Nat.pow_succ 2 (h+1)];generalize 2 ^ (h+1)=x;rw[Nat.mul_assoc,<-Nat.mul_succ];congr 1
 omega
theorem Jr(h m:Nat):PLC (h+1) m=PLC h (2*m+1)+1:=by
 have h1:=xl (h+1) m;have h2:=xl h (2*m+1);rw[jK] at h2
 have e:2 ^ (h+1+1)*(m+1)=2 ^ (h+1)*(2*m+1+1):=by
  rw[Nat.pow_succ 2 (h+1)];generalize 2 ^ (h+1)=x;rw[Nat.mul_assoc];congr 1
 omega
theorem z0Y(h m:Nat):PLC h (2*m+1)=PLC h (2*m)+TREE h:=by
 have h1:=kr h m;have h2:=Jr h m;have h3:=xj h;unfold TREE;omega
theorem Mo{h H k:Nat}(hh:h<=H)(hk:k<2 ^ (H - h)):PLC h (2 ^ (H - h)+k)=TREE H+PLC h k:=by
 have h1:=xl h (2 ^ (H - h)+k);have h2:=xl h k;have h3:=Z6 (H - h) 1 k hk;rw[Nat.one_mul,Ub] at h3
 have e:2 ^ (h+1)*(2 ^ (H - h)+k+1)=2 ^ (H+1)+2 ^ (h+1)*(k+1):=by
  rw[Nat.add_assoc,Nat.mul_add,<-Nat.pow_add,show h+1+(H - h)=H+1 by omega]
 have h4:=xj H;unfold TREE;omega
theorem XU{h H k:Nat}(hh:h<=H)(hk:k<2 ^ (H - h)):PLC h k+2<=2 ^ (H+1):=by
 have h1:=xl h k;have e:2 ^ (h+1)*(k+1)<=2 ^ (h+1)*2 ^ (H - h):=Nat.mul_le_mul_left _ hk;rw[<-Nat.pow_add,show h+1+(H - h)=H+1 by omega] at e;omega
theorem z0Z(H:Nat):∀ h k h' k',h<=H->k<2 ^ (H - h)->h'<=H->k'<2 ^ (H - h')->PLC h k=PLC h' k'->h=h'/\k=k':=by
 induction H with
 | zero=>
   intro h k h' k' a b c d _;obtain rfl:h=0:=by omega
   obtain rfl:h'=0:=by omega
   simp at b d;omega
 | succ H ih=>
   have top:∀ h k,h<=H+1->k<2 ^ (H+1 - h)->(h=H+1/\k=0/\PLC h k+2=2 ^ (H+2))\/(h<=H/\k<2 ^ (H - h)/\PLC h k+2<=2 ^ (H+1))\/(h<=H/\∃ q,k=2 ^ (H - h)+q/\q<2 ^ (H - h)/\PLC h k=TREE H+PLC h q/\PLC h q+2<=2 ^ (H+1)):=by
    intro h k a b;rcases Nat.lt_or_ge H h with h1 | h1
    ·obtain rfl:h=H+1:=by omega
     have hk:k=0:=by simpa using b
     subst hk;have:=xl (H+1) 0;rw[yG] at this;exact .inl ⟨rfl,rfl,by simpa using this⟩
    ·rcases Nat.lt_or_ge k (2 ^ (H - h)) with h2 | h2
     ·exact .inr (.inl ⟨h1,h2,XU h1 h2⟩)
     ·have hq:k - 2 ^ (H - h)<2 ^ (H - h):=by
       rw[show H+1 - h=H - h+1 by omega,Nat.pow_succ] at b;omega
      refine .inr (.inr ⟨h1,k - 2 ^ (H - h),by omega,hq,?_,XU h1 hq⟩);have:=Mo h1 hq;rw[show 2 ^ (H - h)+(k - 2 ^ (H - h))=k by omega] at this;exact this
   have hp:=xj H;have hpp:2 ^ (H+2)=2*2 ^ (H+1):=by rw[Nat.pow_succ 2 (H+1),Nat.mul_comm]
   intro h k h' k' a b c d e;unfold TREE at top;rcases top h k a b with ⟨r1,r2,r3⟩ | ⟨r1,r2,r3⟩ | ⟨r1,q,r2,r3,r4,r5⟩ <;> rcases top h' k' c d with ⟨s1,s2,s3⟩ | ⟨s1,s2,s3⟩ | ⟨s1,q',s2,s3,s4,s5⟩
   ·omega
   ·omega
   ·omega
   ·omega
   ·exact ih h k h' k' r1 r2 s1 s2 e
   ·omega
   ·omega
   ·omega
   ·obtain⟨rfl,rfl⟩:=ih h q h' q' r1 r3 s1 s3 (by omega)
    exact⟨rfl,by omega⟩
def Node(h k:Nat):Prop:=h<=62/\k<2 ^ (62 - h)
theorem Node.one{h k h' k':Nat}(a:Node h k)(b:Node h' k')(e:PLC h k=PLC h' k'):h=h'/\k=k':=z0Z 62 h k h' k' a.1 a.2 b.1 b.2 e
theorem Node.lt{h k:Nat}(a:Node h k):PLC h k<9223372036854775807:=by
 have:=XU a.1 a.2;omega
theorem Node.index_lt{h k:Nat}(a:Node h k):k<2 ^ 62:=Nat.lt_of_lt_of_le a.2 (Nat.pow_le_pow_right (by decide) (by omega))
theorem Node.span{h k:Nat}(a:Node h k):(k+1)*2 ^ h<=2 ^ 62:=by
 have:(k+1)*2 ^ h<=2 ^ (62 - h)*2 ^ h:=Nat.mul_le_mul_right _ a.2;rw[<-Nat.pow_add,Nat.sub_add_cancel a.1] at this;exact this
theorem KL:zz 4611686018427387904=9223372036854775807:=by
 have h:=xd (2 ^ 62);rw[z25] at h;have e:(4611686018427387904:Nat)=2 ^ 62:=by decide
 rw[e];omega
theorem z14(x n:Int)(w:World):Calls Tryz.prog 147 #[.int .u64 x,.int .i64 n] w fun e w'=>e=.returned (.int .u64 (if n<0 then x / 2 ^ min (IntKind.u64.wrap (-IntKind.u64.wrap n)).toNat 64 else IntKind.u64.wrap (x*2 ^ min (IntKind.u64.wrap n).toNat 64)))/\w=w':=by
 by_cases h:n<0
 ·rw[if_pos h]
  go_enter Tryz.func147,Tryz.ntmps147;go_wp2;go_ret;exact⟨rfl,rfl⟩
 ·rw[if_neg h]
  go_enter Tryz.func147,Tryz.ntmps147;go_wp2;go_ret;exact⟨rfl,rfl⟩
theorem XA(x n:Int)(w:World):Calls Tryz.prog 145 #[.int .u64 x,.int .i64 n] w fun e w'=>e=.returned (.int .u64 (if n<0 then IntKind.u64.wrap (x*2 ^ min (IntKind.u64.wrap (-IntKind.u64.wrap n)).toNat 64) else x / 2 ^ min (IntKind.u64.wrap n).toNat 64))/\w=w':=by
 by_cases h:n<0
 ·rw[if_pos h]
  go_enter Tryz.func145,Tryz.ntmps145;go_wp2;go_ret;exact⟨rfl,rfl⟩
 ·rw[if_neg h]
  go_enter Tryz.func145,Tryz.ntmps145;go_wp2;go_ret;exact⟨rfl,rfl⟩
theorem Mp(n:Int)(w:World):Calls Tryz.prog 132 #[.int .i64 n] w fun e w'=>e=.returned (.int .u64 (if n<=0 then 0 else IntKind.u64.wrap (IntKind.u64.wrap (1*2 ^ min (IntKind.u64.wrap n).toNat 64) - 1)))/\w=w':=by
 by_cases h:n<=0
 ·rw[if_pos h]
  go_enter Tryz.func132,Tryz.ntmps132;go_wp2;go_ret;exact⟨rfl,rfl⟩
 ·rw[if_neg h]
  go_enter Tryz.func132,Tryz.ntmps132;go_wp2;go_ret;exact⟨rfl,rfl⟩
theorem XV(X:Nat)(n:Int)(hX:X<2 ^ 64)(h0 : -(2 ^ 63)<=n)(h1:n<2 ^ 63)(w:World):Calls Tryz.prog 147 #[.int .u64 (X:Int),.int .i64 n] w fun e w'=>e=.returned (.int .u64 ((SHL X n:Nat):Int))/\w=w':=
 (z14 X n w).mono fun e w' h=>by rw[KH hX h0 h1] at h;exact h
theorem qW(X:Nat)(n:Int)(hX:X<2 ^ 64)(h0 : -(2 ^ 63)<=n)(h1:n<2 ^ 63)(w:World):Calls Tryz.prog 145 #[.int .u64 (X:Int),.int .i64 n] w fun e w'=>e=.returned (.int .u64 ((SHR X n:Nat):Int))/\w=w':=
 (XA X n w).mono fun e w' h=>by rw[J4 hX h0 h1] at h;exact h
theorem z15(n:Int)(h1:n<2 ^ 63)(w:World):Calls Tryz.prog 132 #[.int .i64 n] w fun e w'=>e=.returned (.int .u64 ((MASK n:Nat):Int))/\w=w':=
 (Mp n w).mono fun e w' h=>by rw[ko h1] at h;exact h
theorem Mq(x x1 x2 x3 x4 x5 x6 r:Int)(w:World)
  (e1:IntKind.u64.wrap (bits .and .u64 (x / 2) 6148914691236517205+bits .and .u64 x 6148914691236517205)=x1)
  (e2:IntKind.u64.wrap (bits .and .u64 (x1 / 4) 3689348814741910323+bits .and .u64 x1 3689348814741910323)=x2)
  (e3:bits .and .u64 (IntKind.u64.wrap (x2 / 16+x2)) 1085102592571150095=x3)
  (e4:IntKind.u64.wrap (x3+x3 / 256)=x4)(e5:IntKind.u64.wrap (x4+x4 / 65536)=x5)(e6:IntKind.u64.wrap (x5+x5 / 4294967296)=x6)
  (e7:bits .and .i64 (wrap64 x6) 127=r):
  Calls Tryz.prog 75 #[.int .u64 x] w fun e w'=>e=.returned (.int .i64 r)/\w=w':=by
 go_enter Tryz.func75,Tryz.ntmps75;go_wp2;go_ret;exact⟨rfl,rfl⟩
theorem qH{a:Nat}{A:Int}(e:A=(a:Int))(h:a<2 ^ 64):IntKind.u64.wrap A=(a:Int):=by rw[zh,e];omega
theorem jD{a c:Nat}{A C:Int}(eA:A=(a:Int))(eC:C=(c:Int))(ha:a<2 ^ 64)(hc:c<2 ^ 64):bits .and .u64 A C=((a &&& c:Nat):Int):=by
 subst eA eC;exact Z4 ha hc
theorem uk{w D:Nat}:∀ (n x:Nat),DLE w D (n+1) x->x / 2 ^ (w*n) % 2 ^ w<=D
 | 0,x,h=>by simpa using h.1
 | n+1,x,h=>by
   have:=uk n (x / 2 ^ w) h.2;rw[Nat.div_div_eq_div_mul,<-Nat.pow_add,show w+w*n=w*(n+1) by rw[Nat.mul_add,Nat.mul_one,Nat.add_comm]] at this;exact this
theorem z16(y p:Nat)(h:y % 128=p):bits .and .i64 (wrap64 (y:Int)) 127=(p:Int):=by
 rw[z1Z];unfold wrap64;omega
theorem Yo(X:Nat)(hX:X<2 ^ 64)(w:World):Calls Tryz.prog 75 #[.int .u64 (X:Int)] w fun e w'=>e=.returned (.int .i64 ((POP X:Nat):Int))/\w=w':=by
 have h1:X1 X<2 ^ 64:=by rw[Ja];exact ZN (k:=1) (by decide) 32 _
 have h2:=Up X;have h3:=z2F X
 have h16:X2 X / 16+X2 X<2 ^ 64:=by
  have ht:=uk 15 (X2 X) (Jc X);simp only[Nat.reducePow,Nat.reduceMul] at ht h2 ⊢;generalize X2 X=y at *
  omega
 have hl:=Mj h3 (z2E X);rw[z24] at hl;have hlt:=hl.2;have hle4:X3 X+X3 X / 256<2 ^ 64:=Nat.lt_of_le_of_lt (by generalize X3 X+X3 X / 256=y;omega) hlt;have hle5:X3 X+X3 X / 256+(X3 X+X3 X / 256) / 65536<2 ^ 64:=Nat.lt_of_le_of_lt (by generalize X3 X+X3 X / 256+(X3 X+X3 X / 256) / 65536=y;omega) hlt;refine Mq X (X1 X:Nat) (X2 X:Nat) (X3 X:Nat) (X3 X+X3 X / 256:Nat) (X3 X+X3 X / 256+(X3 X+X3 X / 256) / 65536:Nat) (X3 X+X3 X / 256+(X3 X+X3 X / 256) / 65536+(X3 X+X3 X / 256+(X3 X+X3 X / 256) / 65536) / 4294967296:Nat) _ w ?_ ?_ ?_ ?_ ?_ ?_ ?_
 ·have a1:bits .and .u64 ((X:Int) / 2) 6148914691236517205=((X / 2 &&& 6148914691236517205:Nat):Int):=jD (by simp) rfl (by omega) (by decide)
  have a2:bits .and .u64 (X:Int) 6148914691236517205=((X &&& 6148914691236517205:Nat):Int):=jD rfl rfl hX (by decide);rw[a1,a2];exact qH (by unfold X1;rw[Int.natCast_add]) h1
 ·have a1:bits .and .u64 (((X1 X:Nat):Int) / 4) 3689348814741910323=((X1 X / 4 &&& 3689348814741910323:Nat):Int):=jD (by simp) rfl (by omega) (by decide)
  have a2:bits .and .u64 ((X1 X:Nat):Int) 3689348814741910323=((X1 X &&& 3689348814741910323:Nat):Int):=jD rfl rfl h1 (by decide);rw[a1,a2];exact qH (by unfold X2;rw[Int.natCast_add]) h2
 ·have a0:IntKind.u64.wrap (((X2 X:Nat):Int) / 16+((X2 X:Nat):Int))=((X2 X / 16+X2 X:Nat):Int):=qH (by simp) h16
  rw[a0];exact jD rfl rfl h16 (by decide)
 ·exact qH (by simp) hle4
 ·exact qH (by simp) hle5
 ·exact qH (by simp) hlt
 ·exact z16 _ _ hl.1
theorem UO(x r:Int)(w:World)(c:∀ w,Calls Tryz.prog 75 #[.int .u64 x] w fun e w'=>e=.returned (.int .i64 r)/\w=w'):
  Calls Tryz.prog 129 #[.int .u64 x] w fun e w'=>e=.returned (.int .i64 r)/\w=w':=by
 go_enter Tryz.func129,Tryz.ntmps129;go_wp2_with fail
 refine(c _).mono ?_;rintro e w' ⟨rfl,rfl⟩;go_wp2;go_ret;exact⟨rfl,rfl⟩
theorem z17(X:Nat)(hX:X<2 ^ 64)(w:World):Calls Tryz.prog 129 #[.int .u64 (X:Int)] w fun e w'=>e=.returned (.int .i64 ((POP X:Nat):Int))/\w=w':=
 UO X _ w (fun w=>Yo X hX w)
theorem GB:∀ X:Nat,X≠0->∃ t q,X=2 ^ t*(2*q+1):=fun X=>by
 induction X using Nat.strongRecOn with
 | _ X ih=>
   intro h;by_cases ho:X % 2=1
   ·exact⟨0,X / 2,by omega⟩
   ·obtain⟨t,q,e⟩:=ih (X / 2) (by omega) (by omega)
    refine⟨t+1,q,?_⟩;rw[Nat.pow_succ,Nat.mul_comm (2 ^ t) 2,Nat.mul_assoc,<-e];omega
theorem z18{q s:Nat}(h:2*q+1<2 ^ s):(2*q+1) &&& (2 ^ s - (2*q+1))=1:=by
 apply Nat.eq_of_testBit_eq;intro i;rw[Nat.testBit_and,Nat.testBit_two_pow_sub_succ (by omega)];cases i with
 | zero=>
   have hs:0<s:=by
    rcases Nat.eq_zero_or_pos s with h0 | h0
    ·subst h0
     simp at h
    ·exact h0
   simp[Nat.testBit_zero,hs]
 | succ i=>
   rw[Nat.testBit_succ,Nat.testBit_succ,Nat.testBit_succ,show (2*q+1) / 2=q by omega,show 2*q / 2=q by omega];simp;intro h1 _;exact h1
theorem ul{X t q:Nat}(hX:X<2 ^ 64)(e:X=2 ^ t*(2*q+1)):X &&& (2 ^ 64 - X)=2 ^ t/\t<64:=by
 have hp:=Nat.two_pow_pos t
 have ht:t<64:=by
  rcases Nat.lt_or_ge t 64 with h | h
  ·exact h
  ·have h1:2 ^ 64<=2 ^ t:=Nat.pow_le_pow_right (by decide) h
   have h2:2 ^ t*1<=2 ^ t*(2*q+1):=Nat.mul_le_mul_left _ (by omega);omega
 have h64:(2:Nat) ^ 64=2 ^ t*2 ^ (64 - t):=by rw[<-Nat.pow_add,show t+(64 - t)=64 by omega]
 have hq:2*q+1<2 ^ (64 - t):=by
  rw[e,h64] at hX;exact Nat.lt_of_mul_lt_mul_left hX
 refine⟨?_,ht⟩;rw[e,h64,<-Nat.mul_sub,Nat.mul_comm,Nat.mul_comm (2 ^ t),<-Nat.shiftLeft_eq,<-Nat.shiftLeft_eq,<-Nat.shiftLeft_and_distrib,z18 hq,Nat.shiftLeft_eq,Nat.one_mul]
def TAB:List Nat:=[0,1,56,2,57,49,28,3,61,58,42,50,38,29,17,4,62,47,59,36,45,43,51,22,53,39,33,30,24,18,12,5,63,55,48,27,60,41,37,16,46,35,44,21,52,32,23,11,54,26,40,15,34,20,31,10,25,14,19,9,13,8,7,6]
def Tabled(w:World):Prop:=∀ i,i<64->w.cell? ⟨2,i,none⟩=some (.int .u8 ((TAB.getD i 0:Nat):Int))
theorem z19:∀ t,t<64->TAB.getD (2 ^ t*285870213051353865 % 2 ^ 64 / 2 ^ 58) 0=t:=by decide
theorem z26(x b p i t:Int)(w:World)(h0:(x == 0)=false)(e1:bits .and .u64 x (IntKind.u64.wrap (-x))=b)(e2:IntKind.u64.wrap (b*285870213051353865)=p)(hi:p / 288230376151711744=i)(hi1:0<=i)(hi2:i<64)
  (hc:w.cell? ⟨2,i.toNat,none⟩=some (.int .u8 t))(ht:Aside (wrap64 t=t)):Calls Tryz.prog 142 #[.int .u64 x] w fun e w'=>e=.returned (.int .i64 t)/\w=w':=by
 go_enter Tryz.func142,Tryz.ntmps142;go_wp2;go_ret;refine⟨?_,rfl⟩;rw[show (Value.int .i64 t)=.int .i64 (wrap64 t) by rw[ht.out]];rfl
theorem z2H(X t q:Nat)(hX:X<2 ^ 64)(e:X=2 ^ t*(2*q+1))(w:World)(hT:Tabled w):Calls Tryz.prog 142 #[.int .u64 (X:Int)] w fun e w'=>e=.returned (.int .i64 (t:Int))/\w=w':=by
 obtain⟨ha,ht⟩:=ul hX e
 have hX0:0<X:=by
  rw[e];exact Nat.mul_pos (Nat.two_pow_pos t) (by omega)
 have hm:IntKind.u64.wrap (-(X:Int))=((2 ^ 64 - X:Nat):Int):=by rw[zh];omega
 have hb:bits .and .u64 (X:Int) (IntKind.u64.wrap (-(X:Int)))=((2 ^ t:Nat):Int):=by rw[hm,Z4 hX (by omega),ha]
 have hp:IntKind.u64.wrap (((2 ^ t:Nat):Int)*285870213051353865)=((2 ^ t*285870213051353865 % 2 ^ 64:Nat):Int):=by
  rw[zh];generalize 2 ^ t=u;omega
 have hl:2 ^ t*285870213051353865 % 2 ^ 64<2 ^ 64:=Nat.mod_lt _ (by decide);have hi:2 ^ t*285870213051353865 % 2 ^ 64 / 2 ^ 58<64:=Nat.div_lt_of_lt_mul (by omega);have hc:=hT _ hi;rw[z19 t ht] at hc;refine z26 X _ _ ((2 ^ t*285870213051353865 % 2 ^ 64 / 2 ^ 58:Nat):Int) t w (by simp;omega) hb hp ?_ (by omega) (by omega) (by rw[Int.toNat_natCast];exact hc) (by unfold Aside wrap64;omega);generalize 2 ^ t*285870213051353865 % 2 ^ 64=u;omega
theorem z1a(x r:Int)(w:World)(c:Calls Tryz.prog 142 #[.int .u64 x] w fun e w'=>e=.returned (.int .i64 r)/\w=w'):
  Calls Tryz.prog 130 #[.int .u64 x] w fun e w'=>e=.returned (.int .i64 r)/\w=w':=by
 go_enter Tryz.func130,Tryz.ntmps130;go_wp2_with fail
 refine c.mono ?_;rintro e w' ⟨rfl,rfl⟩;go_wp2;go_ret;exact⟨rfl,rfl⟩
def LTAB:ByteArray:=⟨#[0,1,2,2,3,3,3,3,4,4,4,4,4,4,4,4,5,5,5,5,5,5,5,5,5,5,5,5,5,5,5,5,6,6,6,6,6,6,6,6,6,6,6,6,6,6,6,6,6,6,6,6,6,6,6,6,6,6,6,6,6,6,6,6,7,7,7,7,7,7,7,7,7,7,7,7,7,7,7,7,7,7,7,7,7,7,7,7,7,7,7,7,7,7,7,7,7,7,7,7,7,7,7,7,7,7,7,7,7,7,7,7,7,7,7,7,7,7,7,7,7,7,7,7,7,7,7,7,8,8,8,8,8,8,8,8,8,8,8,8,8,8,8,8,8,8,8,8,8,8,8,8,8,8,8,8,8,8,8,8,8,8,8,8,8,8,8,8,8,8,8,8,8,8,8,8,8,8,8,8,8,8,8,8,8,8,8,8,8,8,8,8,8,8,8,8,8,8,8,8,8,8,8,8,8,8,8,8,8,8,8,8,8,8,8,8,8,8,8,8,8,8,8,8,8,8,8,8,8,8,8,8,8,8,8,8,8,8,8,8,8,8,8,8,8,8,8,8,8,8,8,8,8,8,8,8]⟩
theorem KM(x v:Int)(w:World)(h0:(¬ 4294967296<=x))(h1:(¬ 65536<=x))(h2:(¬ 256<=x))(hx:0<=x)(hx':x<256)
  (hv:Aside (∀ h:(x).toNat<LTAB.size,wrap64 (wrap64 (LTAB[(x).toNat]'h).toNat)=v)):Calls Tryz.prog 148 #[.int .u64 x] w fun e w'=>e=.returned (.int .i64 v)/\w=w':=by
 go_enter Tryz.func148,Tryz.ntmps148;go_wp2;go_ret;exact⟨congrArg (fun z=>Ending.returned (Value.int .i64 z)) (hv.out _),rfl⟩
theorem KO(x v:Int)(w:World)(h0:(¬ 4294967296<=x))(h1:(¬ 65536<=x))(h2:(256<=x))(hx:0<=x / 256)(hx':x / 256<256)
  (hv:Aside (∀ h:(x / 256).toNat<LTAB.size,wrap64 (8+wrap64 (LTAB[(x / 256).toNat]'h).toNat)=v)):Calls Tryz.prog 148 #[.int .u64 x] w fun e w'=>e=.returned (.int .i64 v)/\w=w':=by
 go_enter Tryz.func148,Tryz.ntmps148;go_wp2;go_ret;exact⟨congrArg (fun z=>Ending.returned (Value.int .i64 z)) (hv.out _),rfl⟩
theorem KR(x v:Int)(w:World)(h0:(¬ 4294967296<=x))(h1:(65536<=x))(h2:(¬ 256<=x / 65536))(hx:0<=x / 65536)(hx':x / 65536<256)
  (hv:Aside (∀ h:(x / 65536).toNat<LTAB.size,wrap64 (16+wrap64 (LTAB[(x / 65536).toNat]'h).toNat)=v)):Calls Tryz.prog 148 #[.int .u64 x] w fun e w'=>e=.returned (.int .i64 v)/\w=w':=by
 go_enter Tryz.func148,Tryz.ntmps148;go_wp2;go_ret;exact⟨congrArg (fun z=>Ending.returned (Value.int .i64 z)) (hv.out _),rfl⟩
theorem KS(x v:Int)(w:World)(h0:(¬ 4294967296<=x))(h1:(65536<=x))(h2:(256<=x / 65536))(hx:0<=x / 65536 / 256)(hx':x / 65536 / 256<256)
  (hv:Aside (∀ h:(x / 65536 / 256).toNat<LTAB.size,wrap64 (24+wrap64 (LTAB[(x / 65536 / 256).toNat]'h).toNat)=v)):Calls Tryz.prog 148 #[.int .u64 x] w fun e w'=>e=.returned (.int .i64 v)/\w=w':=by
 go_enter Tryz.func148,Tryz.ntmps148;go_wp2;go_ret;exact⟨congrArg (fun z=>Ending.returned (Value.int .i64 z)) (hv.out _),rfl⟩
theorem KT(x v:Int)(w:World)(h0:(4294967296<=x))(h1:(¬ 65536<=x / 4294967296))(h2:(¬ 256<=x / 4294967296))(hx:0<=x / 4294967296)(hx':x / 4294967296<256)
  (hv:Aside (∀ h:(x / 4294967296).toNat<LTAB.size,wrap64 (32+wrap64 (LTAB[(x / 4294967296).toNat]'h).toNat)=v)):Calls Tryz.prog 148 #[.int .u64 x] w fun e w'=>e=.returned (.int .i64 v)/\w=w':=by
 go_enter Tryz.func148,Tryz.ntmps148;go_wp2;go_ret;exact⟨congrArg (fun z=>Ending.returned (Value.int .i64 z)) (hv.out _),rfl⟩
theorem KU(x v:Int)(w:World)(h0:(4294967296<=x))(h1:(¬ 65536<=x / 4294967296))(h2:(256<=x / 4294967296))(hx:0<=x / 4294967296 / 256)(hx':x / 4294967296 / 256<256)
  (hv:Aside (∀ h:(x / 4294967296 / 256).toNat<LTAB.size,wrap64 (40+wrap64 (LTAB[(x / 4294967296 / 256).toNat]'h).toNat)=v)):Calls Tryz.prog 148 #[.int .u64 x] w fun e w'=>e=.returned (.int .i64 v)/\w=w':=by
 go_enter Tryz.func148,Tryz.ntmps148;go_wp2;go_ret;exact⟨congrArg (fun z=>Ending.returned (Value.int .i64 z)) (hv.out _),rfl⟩
theorem KV(x v:Int)(w:World)(h0:(4294967296<=x))(h1:(65536<=x / 4294967296))(h2:(¬ 256<=x / 4294967296 / 65536))(hx:0<=x / 4294967296 / 65536)(hx':x / 4294967296 / 65536<256)
  (hv:Aside (∀ h:(x / 4294967296 / 65536).toNat<LTAB.size,wrap64 (48+wrap64 (LTAB[(x / 4294967296 / 65536).toNat]'h).toNat)=v)):Calls Tryz.prog 148 #[.int .u64 x] w fun e w'=>e=.returned (.int .i64 v)/\w=w':=by
 go_enter Tryz.func148,Tryz.ntmps148;go_wp2;go_ret;exact⟨congrArg (fun z=>Ending.returned (Value.int .i64 z)) (hv.out _),rfl⟩
theorem KW(x v:Int)(w:World)(h0:(4294967296<=x))(h1:(65536<=x / 4294967296))(h2:(256<=x / 4294967296 / 65536))(hx:0<=x / 4294967296 / 65536 / 256)(hx':x / 4294967296 / 65536 / 256<256)
  (hv:Aside (∀ h:(x / 4294967296 / 65536 / 256).toNat<LTAB.size,wrap64 (56+wrap64 (LTAB[(x / 4294967296 / 65536 / 256).toNat]'h).toNat)=v)):Calls Tryz.prog 148 #[.int .u64 x] w fun e w'=>e=.returned (.int .i64 v)/\w=w':=by
 go_enter Tryz.func148,Tryz.ntmps148;go_wp2;go_ret;exact⟨congrArg (fun z=>Ending.returned (Value.int .i64 z)) (hv.out _),rfl⟩
def L8(i:Nat):Nat:=if i=0 then 0 else if i<2 then 1 else if i<4 then 2 else if i<8 then 3 else if i<16 then 4 else if i<32 then 5 else if i<64 then 6 else if i<128 then 7 else 8
theorem Mr:∀ i,i<256->(([0,1,2,2,3,3,3,3,4,4,4,4,4,4,4,4,5,5,5,5,5,5,5,5,5,5,5,5,5,5,5,5,6,6,6,6,6,6,6,6,6,6,6,6,6,6,6,6,6,6,6,6,6,6,6,6,6,6,6,6,6,6,6,6,7,7,7,7,7,7,7,7,7,7,7,7,7,7,7,7,7,7,7,7,7,7,7,7,7,7,7,7,7,7,7,7,7,7,7,7,7,7,7,7,7,7,7,7,7,7,7,7,7,7,7,7,7,7,7,7,7,7,7,7,7,7,7,7,8,8,8,8,8,8,8,8,8,8,8,8,8,8,8,8,8,8,8,8,8,8,8,8,8,8,8,8,8,8,8,8,8,8,8,8,8,8,8,8,8,8,8,8,8,8,8,8,8,8,8,8,8,8,8,8,8,8,8,8,8,8,8,8,8,8,8,8,8,8,8,8,8,8,8,8,8,8,8,8,8,8,8,8,8,8,8,8,8,8,8,8,8,8,8,8,8,8,8,8,8,8,8,8,8,8,8,8,8,8,8,8,8,8,8,8,8,8,8,8,8,8,8,8,8,8,8,8]:List UInt8).getD i 0).toNat=L8 i:=by decide +kernel
theorem xE(i:Nat)(h:i<LTAB.size):(LTAB[i]'h).toNat=L8 i:=by
 have h2:i<256:=h;have:=Mr i h2;rw[List.getD_eq_getElem?_getD,List.getElem?_eq_getElem (by exact h)] at this;exact this
theorem yV(i:Nat):L8 i<=8:=by unfold L8;repeat' split <;> try omega
theorem um(i:Nat)(h0:i≠0)(h:i<256):1<=L8 i/\2 ^ (L8 i - 1)<=i/\i<2 ^ L8 i:=by
 unfold L8;repeat' split
 all_goals (try omega)
theorem xW(n i:Nat)(hn:n<=56):wrap64 ((n:Int)+wrap64 ((L8 i:Nat):Int))=((n+L8 i:Nat):Int):=by
 have:=yV i;unfold wrap64;omega
theorem Ms(i:Nat):wrap64 (wrap64 ((L8 i:Nat):Int))=((L8 i:Nat):Int):=by
 have:=yV i;unfold wrap64;omega
def LEN(X:Nat):Nat:=
 if 4294967296<=X then (if 281474976710656<=X then (if 72057594037927936<=X then 56+L8 (X / 72057594037927936) else 48+L8 (X / 281474976710656)) else (if 1099511627776<=X then 40+L8 (X / 1099511627776) else 32+L8 (X / 4294967296)))
 else (if 65536<=X then (if 16777216<=X then 24+L8 (X / 16777216) else 16+L8 (X / 65536)) else (if 256<=X then 8+L8 (X / 256) else L8 X))
theorem GC(X:Nat)(hX:X<2 ^ 64)(h0:¬ 4294967296<=X)(h1:¬ 65536<=X)(h2:¬ 256<=X)(w:World):Calls Tryz.prog 148 #[.int .u64 (X:Int)] w fun e w'=>e=.returned (.int .i64 ((0+L8 (X / 1):Nat):Int))/\w=w':=by
 have e:((X:Int)).toNat=X / 1:=by omega
 refine KM X _ w (by omega) (by omega) (by omega) (by omega) (by omega) fun h=>?_;rw[xE _ h,e];exact(Ms _).trans (by rw[Nat.zero_add])
theorem GD(X:Nat)(hX:X<2 ^ 64)(h0:¬ 4294967296<=X)(h1:¬ 65536<=X)(h2:256<=X)(w:World):Calls Tryz.prog 148 #[.int .u64 (X:Int)] w fun e w'=>e=.returned (.int .i64 ((8+L8 (X / 256):Nat):Int))/\w=w':=by
 have e:((X:Int) / 256).toNat=X / 256:=by omega
 refine KO X _ w (by omega) (by omega) (by omega) (by omega) (by omega) fun h=>?_;rw[xE _ h,e];exact xW 8 _ (by decide)
theorem GE(X:Nat)(hX:X<2 ^ 64)(h0:¬ 4294967296<=X)(h1:65536<=X)(h2:¬ 16777216<=X)(w:World):Calls Tryz.prog 148 #[.int .u64 (X:Int)] w fun e w'=>e=.returned (.int .i64 ((16+L8 (X / 65536):Nat):Int))/\w=w':=by
 have e:((X:Int) / 65536).toNat=X / 65536:=by omega
 refine KR X _ w (by omega) (by omega) (by omega) (by omega) (by omega) fun h=>?_;rw[xE _ h,e];exact xW 16 _ (by decide)
theorem GF(X:Nat)(hX:X<2 ^ 64)(h0:¬ 4294967296<=X)(h1:65536<=X)(h2:16777216<=X)(w:World):Calls Tryz.prog 148 #[.int .u64 (X:Int)] w fun e w'=>e=.returned (.int .i64 ((24+L8 (X / 16777216):Nat):Int))/\w=w':=by
 have e:((X:Int) / 65536 / 256).toNat=X / 16777216:=by omega
 refine KS X _ w (by omega) (by omega) (by omega) (by omega) (by omega) fun h=>?_;rw[xE _ h,e];exact xW 24 _ (by decide)
theorem GG(X:Nat)(hX:X<2 ^ 64)(h0:4294967296<=X)(h1:¬ 281474976710656<=X)(h2:¬ 1099511627776<=X)(w:World):Calls Tryz.prog 148 #[.int .u64 (X:Int)] w fun e w'=>e=.returned (.int .i64 ((32+L8 (X / 4294967296):Nat):Int))/\w=w':=by
 have e:((X:Int) / 4294967296).toNat=X / 4294967296:=by omega
 refine KT X _ w (by omega) (by omega) (by omega) (by omega) (by omega) fun h=>?_;rw[xE _ h,e];exact xW 32 _ (by decide)
theorem GH(X:Nat)(hX:X<2 ^ 64)(h0:4294967296<=X)(h1:¬ 281474976710656<=X)(h2:1099511627776<=X)(w:World):Calls Tryz.prog 148 #[.int .u64 (X:Int)] w fun e w'=>e=.returned (.int .i64 ((40+L8 (X / 1099511627776):Nat):Int))/\w=w':=by
 have e:((X:Int) / 4294967296 / 256).toNat=X / 1099511627776:=by omega
 refine KU X _ w (by omega) (by omega) (by omega) (by omega) (by omega) fun h=>?_;rw[xE _ h,e];exact xW 40 _ (by decide)
theorem GI(X:Nat)(hX:X<2 ^ 64)(h0:4294967296<=X)(h1:281474976710656<=X)(h2:¬ 72057594037927936<=X)(w:World):Calls Tryz.prog 148 #[.int .u64 (X:Int)] w fun e w'=>e=.returned (.int .i64 ((48+L8 (X / 281474976710656):Nat):Int))/\w=w':=by
 have e:((X:Int) / 4294967296 / 65536).toNat=X / 281474976710656:=by omega
 refine KV X _ w (by omega) (by omega) (by omega) (by omega) (by omega) fun h=>?_;rw[xE _ h,e];exact xW 48 _ (by decide)
theorem GJ(X:Nat)(hX:X<2 ^ 64)(h0:4294967296<=X)(h1:281474976710656<=X)(h2:72057594037927936<=X)(w:World):Calls Tryz.prog 148 #[.int .u64 (X:Int)] w fun e w'=>e=.returned (.int .i64 ((56+L8 (X / 72057594037927936):Nat):Int))/\w=w':=by
 have e:((X:Int) / 4294967296 / 65536 / 256).toNat=X / 72057594037927936:=by omega
 refine KW X _ w (by omega) (by omega) (by omega) (by omega) (by omega) fun h=>?_;rw[xE _ h,e];exact xW 56 _ (by decide)
theorem z27(X:Nat)(hX:X<2 ^ 64)(w:World):Calls Tryz.prog 148 #[.int .u64 (X:Int)] w fun e w'=>e=.returned (.int .i64 ((LEN X:Nat):Int))/\w=w':=by
 unfold LEN;split
 ·split
  ·split
   ·exact GJ X hX (by omega) (by omega) (by omega) w
   ·exact GI X hX (by omega) (by omega) (by omega) w
  ·split
   ·exact GH X hX (by omega) (by omega) (by omega) w
   ·exact GG X hX (by omega) (by omega) (by omega) w
 ·split
  ·split
   ·exact GF X hX (by omega) (by omega) (by omega) w
   ·exact GE X hX (by omega) (by omega) (by omega) w
  ·split
   ·exact GD X hX (by omega) (by omega) (by omega) w
   ·have k:=GC X hX (by omega) (by omega) (by omega) w
    rw[Nat.div_one,Nat.zero_add] at k;exact k
theorem xX{X n:Nat}(h0:X / 2 ^ n≠0)(h:X / 2 ^ n<256):1<=n+L8 (X / 2 ^ n)/\2 ^ (n+L8 (X / 2 ^ n) - 1)<=X/\X<2 ^ (n+L8 (X / 2 ^ n)):=by
 obtain⟨a,b,c⟩:=um _ h0 h;have hp:=Nat.two_pow_pos n;refine⟨by omega,?_,?_⟩
 ·rw[show n+L8 (X / 2 ^ n) - 1=n+(L8 (X / 2 ^ n) - 1) by omega,Nat.pow_add]
  exact Nat.le_trans (Nat.mul_le_mul_left _ b) (Nat.mul_div_le X (2 ^ n))
 ·rw[Nat.pow_add,Nat.mul_comm]
  exact(Nat.div_lt_iff_lt_mul hp).1 c
theorem Mt(X:Nat)(hX:X<2 ^ 64)(h0:X≠0):1<=LEN X/\2 ^ (LEN X - 1)<=X/\X<2 ^ LEN X:=by
 unfold LEN;split
 ·split
  ·split
   ·exact xX (n:=56) (by omega) (by omega)
   ·exact xX (n:=48) (by omega) (by omega)
  ·split
   ·exact xX (n:=40) (by omega) (by omega)
   ·exact xX (n:=32) (by omega) (by omega)
 ·split
  ·split
   ·exact xX (n:=24) (by omega) (by omega)
   ·exact xX (n:=16) (by omega) (by omega)
  ·split
   ·exact xX (n:=8) (by omega) (by omega)
   ·exact um X h0 (by omega)
theorem Mu(x r:Int)(w:World)(c:∀ w,Calls Tryz.prog 148 #[.int .u64 x] w fun e w'=>e=.returned (.int .i64 r)/\w=w')(h0:0<=r)(h1:r<=64):
  Calls Tryz.prog 143 #[.int .u64 x] w fun e w'=>e=.returned (.int .i64 (r - 1))/\w=w':=by
 go_enter Tryz.func143,Tryz.ntmps143;go_wp2_with fail
 refine(c _).mono ?_;rintro e w' ⟨rfl,rfl⟩;go_wp2;go_ret;exact⟨rfl,rfl⟩
theorem GK{h:Nat}(hh:h<=63):MASK ((h:Int)+1)=TREE h:=by
 unfold MASK TREE;rw[show min ((h:Int)+1).toNat 64=h+1 by omega]
theorem Mv(h r:Int)(w:World)(e:wrap64 (h+1)=h+1)(c:∀ w,Calls Tryz.prog 132 #[.int .i64 (h+1)] w fun e w'=>e=.returned (.int .u64 r)/\w=w'):
  Calls Tryz.prog 111 #[.int .i64 h] w fun e w'=>e=.returned (.int .u64 r)/\w=w':=by
 go_enter Tryz.func111,Tryz.ntmps111;go_wp2_with fail
 refine(c _).mono ?_;rintro e w' ⟨rfl,rfl⟩;go_wp2;go_ret;exact⟨rfl,rfl⟩
theorem ZO(h:Nat)(hh:h<=63)(w:World):Calls Tryz.prog 111 #[.int .i64 (h:Int)] w fun e w'=>e=.returned (.int .u64 ((TREE h:Nat):Int))/\w=w':=by
 refine Mv h _ w (by unfold wrap64;omega) (fun w=>?_);rw[<-GK hh];exact z15 ((h:Int)+1) (by omega) w
theorem UQ(p h t:Int)(w:World)(c:∀ w,Calls Tryz.prog 111 #[.int .i64 h] w fun e w'=>e=.returned (.int .u64 t)/\w=w'):
  Calls Tryz.prog 136 #[.int .u64 p,.int .i64 h,.bool true] w fun e w'=>e=.returned (.int .u64 (IntKind.u64.wrap (p - t)))/\w=w':=by
 go_enter Tryz.func136,Tryz.ntmps136;go_wp2_with fail
 refine(c _).mono ?_;rintro e w' ⟨rfl,rfl⟩;go_wp2;go_ret;exact⟨rfl,rfl⟩
end Go.Proofs.YtobaogpomcocpaaGreatDoor
