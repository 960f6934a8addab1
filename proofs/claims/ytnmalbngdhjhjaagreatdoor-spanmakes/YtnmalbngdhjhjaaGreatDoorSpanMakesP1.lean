/- Texts of SpanMakes, one behind the other: RegionTakes, NumPlain, NumCalls, NumPop, NumBitCalls, HashPlain, NumSlice. -/
import Derived.Test.YtnmalbngdhjhjaaGreatDoorProg
import Derived.WalkKit
import Derived.WalkLawsBesides
import Derived.Deep.RegionHeld3
import Derived.OpenShut
import Derived.Laws.BitsAllLaws
import Derived.Deep.LoopGhost
import Derived.Deep.OwnRows
import Derived.Deep.QuietTactic
import Derived.BigQuiet
namespace Go.Proofs.YtnmalbngdhjhjaaGreatDoor
set_option maxRecDepth 100000
theorem tkH {ops:Array Oper} {Q:Exit→Act→World→Prop} {S:World→Prop} {fuel:Nat} {lb:List Bool} {l:List Value} {ds:List Deferred} {w:World} (oi:Oper) (v:Value) {t:Tmp} (i:Nat) (hQ:∀ c (a:Act) (t:Tmp) (v:Value) w,Q (.panic c) (a.put (some t) v) w→Q (.panic c) a w) (hy:YieldsIf Tryz.prog ops S oi v ⟨l.toArray,ds⟩) (hS:S w)
    (h:wpAnyH Tryz.prog .any ops Q S fuel (lb.set i true).toArray ⟨(l.set t v).toArray,ds⟩ w) (hi:ops[i]?=some oi:=by rfl) (hd:oi.dst=some t:=by rfl) (hs:Region.noSelect ops=true:=by kernel_rfl) (hf:Region.free .any ops lb.toArray i=true:=by kernel_rfl) (hr:(Region.ready .any ops lb.toArray).contains i=true:=by kernel_rfl):
    wpAnyH Tryz.prog .any ops Q S (fuel+1) lb.toArray ⟨l.toArray,ds⟩ w:=by
  refine wpAnyH_take hi hs hf hr (fun c a w h=>by rw [hd] at h;exact hQ _ _ _ _ _ h) hy hS ?_
  rw [hd]
  simpa only [Act.put,List.setIfInBounds_toArray] using h
theorem tkP {ops:Array Oper} {Q:Exit→Act→World→Prop} {S:World→Prop} {fuel:Nat} {lb:List Bool} {l:List Value} {ds:List Deferred} {w:World} (oi:Oper) (v:Value) {t:Tmp} (i:Nat) (hQ:∀ c (a:Act) (t:Tmp) (v:Value) w,Q (.panic c) (a.put (some t) v) w→Q (.panic c) a w) (hS:S w)
    (h:wpAnyH Tryz.prog .any ops Q S fuel (lb.set i true).toArray ⟨(l.set t v).toArray,ds⟩ w) (hy:YieldsIf Tryz.prog ops S oi v ⟨l.toArray,ds⟩:=by exact Yields.yieldsIf (Or.inl ⟨by rfl,fun W=>by go_simp⟩)) (hi:ops[i]?=some oi:=by rfl) (hd:oi.dst=some t:=by rfl) (hs:Region.noSelect ops=true:=by kernel_rfl) (hf:Region.free .any ops lb.toArray i=true:=by kernel_rfl) (hr:(Region.ready .any ops lb.toArray).contains i=true:=by kernel_rfl):
    wpAnyH Tryz.prog .any ops Q S (fuel+1) lb.toArray ⟨l.toArray,ds⟩ w:=by
  refine wpAnyH_take hi hs hf hr (fun c a w h=>by rw [hd] at h;exact hQ _ _ _ _ _ h) hy hS ?_
  rw [hd]
  simpa only [Act.put,List.setIfInBounds_toArray] using h
theorem tkB {ops:Array Oper} {Q:Exit→Act→World→Prop} {fuel:Nat} {lb:List Bool} {l:List Value} {ds:List Deferred} {w:World} (oi:Oper) (v:Value) {t:Tmp} (i:Nat) (hQ:∀ c (a:Act) (t:Tmp) (v:Value) w,Q (.panic c) (a.put (some t) v) w→Q (.panic c) a w)
    (h:wpAny Tryz.prog .any ops Q fuel (lb.set i true).toArray ⟨(l.set t v).toArray,ds⟩ w) (hy:Yields Tryz.prog ops oi v ⟨l.toArray,ds⟩:=by exact Or.inl ⟨by rfl,fun W=>by go_simp⟩) (hi:ops[i]?=some oi:=by rfl) (hd:oi.dst=some t:=by rfl) (hs:Region.noSelect ops=true:=by kernel_rfl) (hf:Region.free .any ops lb.toArray i=true:=by kernel_rfl) (hr:(Region.ready .any ops lb.toArray).contains i=true:=by kernel_rfl):
    wpAny Tryz.prog .any ops Q (fuel+1) lb.toArray ⟨l.toArray,ds⟩ w:=by
  refine wpAny_take hi hs hf hr (fun c a w h=>by rw [hd] at h;exact hQ _ _ _ _ _ h) hy ?_
  rw [hd]
  simpa only [Act.put,List.setIfInBounds_toArray] using h
end Go.Proofs.YtnmalbngdhjhjaaGreatDoor

namespace Go.Proofs.YtnmalbngdhjhjaaGreatDoor
open Go.RowKit
def SHL (x:Nat) (n:Int):Nat:=if n<0 then x / 2 ^ (-n).toNat else x*2 ^ n.toNat % 2 ^ 64
def SHR (x:Nat) (n:Int):Nat:=if n<0 then x*2 ^ (-n).toNat % 2 ^ 64 else x / 2 ^ n.toNat
def MASK (n:Int):Nat:=2 ^ min n.toNat 64 - 1
theorem wf_u64 {x:Int} (h:(Lit.int .u64 x).wf=true):0≤x∧x<2 ^ 64:=by
  have:=bounds_u64 h
  omega
theorem z9T {x k:Nat} (hx:x<2 ^ 64) (h:64≤k):x / 2 ^ k=0:=
  Nat.div_eq_of_lt (Nat.lt_of_lt_of_le hx (Nat.pow_le_pow_right (by decide) h))
theorem zf8 {x:Nat} (hx:x<2 ^ 64) (k:Nat):x / 2 ^ min k 64=x / 2 ^ k:=by
  by_cases h:k≤64
  · rw [Nat.min_eq_left h]
  · rw [Nat.min_eq_right (by omega),z9T hx (Nat.le_refl _),z9T hx (by omega)]
theorem zf9 (x k:Nat):x*2 ^ min k 64 % 2 ^ 64=x*2 ^ k % 2 ^ 64:=by
  by_cases h:k≤64
  · rw [Nat.min_eq_left h]
  · rw [Nat.min_eq_right (by omega),show k=64+(k - 64) by omega,Nat.pow_add,Nat.mul_mod_left,← Nat.mul_assoc,Nat.mul_right_comm,Nat.mul_mod_left]
theorem z0a (z:Int):IntKind.u64.wrap z=z % 2 ^ 64:=by rw [IntKind.wrap_u64];rfl
theorem zaE (n:Int) (h0 : -(2 ^ 63)≤n) (h:n<0):(IntKind.u64.wrap (-IntKind.u64.wrap n)).toNat=(-n).toNat:=by
  rw [z0a,z0a];omega
theorem zf4 (n:Int) (h0:n<2 ^ 63) (h:¬ n<0):(IntKind.u64.wrap n).toNat=n.toNat:=by
  rw [z0a];omega
theorem z3D (X k:Nat):(X:Int) / 2 ^ k=((X / 2 ^ k:Nat):Int):=by simp
theorem z7E (X k:Nat):IntKind.u64.wrap ((X:Int)*2 ^ k)=((X*2 ^ k % 2 ^ 64:Nat):Int):=by rw [z0a];simp
theorem z5J {X:Nat} (hX:X<2 ^ 64) {n:Int} (h0 : -(2 ^ 63)≤n) (h1:n<2 ^ 63):
    (if n<0 then IntKind.u64.wrap ((X:Int)*2 ^ min (IntKind.u64.wrap (-IntKind.u64.wrap n)).toNat 64) else (X:Int) / 2 ^ min (IntKind.u64.wrap n).toNat 64)=((SHR X n:Nat):Int):=by
  unfold SHR
  split
  · rename_i h
    rw [zaE n h0 h,z7E,zf9]
  · rename_i h
    rw [zf4 n h1 h,z3D,zf8 hX]
theorem z8X {n:Int} (h1:n<2 ^ 63):
    (if n≤0 then 0 else IntKind.u64.wrap (IntKind.u64.wrap (1*2 ^ min (IntKind.u64.wrap n).toNat 64) - 1))=((MASK n:Nat):Int):=by
  unfold MASK
  split
  · rename_i h
    rw [show n.toNat=0 by omega];rfl
  · rename_i h
    rw [zf4 n h1 (by omega)]
    have e:(1:Int)*2 ^ min n.toNat 64=((2 ^ min n.toNat 64:Nat):Int):=by simp
    rw [e,z0a,z0a]
    have h1:2 ^ min n.toNat 64≤2 ^ 64:=Nat.pow_le_pow_right (by decide) (Nat.min_le_right _ _)
    have h2:0<2 ^ min n.toNat 64:=Nat.two_pow_pos _
    generalize 2 ^ min n.toNat 64=p at *
    omega
theorem z4h {a b:Nat} (ha:a<2 ^ 64) (hb:b<2 ^ 64):bits .and .u64 (a:Int) (b:Int)=((a &&& b:Nat):Int):=bits_and_u64_nat a b ha hb
theorem z5K {a b:Nat} (ha:a<2 ^ 64) (hb:b<2 ^ 64):bits .or .u64 (a:Int) (b:Int)=((a ||| b:Nat):Int):=bits_or_u64_nat a b ha hb
theorem z8Y (n:Int):(BitVec.ofInt 64 n).toNat=(n % 2 ^ 64).toNat:=by simp [BitVec.toNat_ofInt]
theorem zgj (n:Int):bits .and .i64 n 127=n % 128:=by
  show IntKind.i64.wrap ((BitVec.ofInt 64 n &&& BitVec.ofInt 64 127).toNat:Int)=_
  have h7:(BitVec.ofInt 64 127).toNat=127:=by decide
  rw [BitVec.toNat_and,z8Y,h7,nat_mask7,IntKind.wrap_i64]
  omega
end Go.Proofs.YtnmalbngdhjhjaaGreatDoor

namespace Go.Proofs.YtnmalbngdhjhjaaGreatDoor
open Go.RowKit
theorem z6m (x n:Int) (w:World):Calls Tryz.prog 217 #[.int .u64 x,.int .i64 n] w fun e w'=>e=.returned (.int .u64 (if n<0 then IntKind.u64.wrap (x*2 ^ min (IntKind.u64.wrap (-IntKind.u64.wrap n)).toNat 64) else x / 2 ^ min (IntKind.u64.wrap n).toNat 64))∧w=w':=by
  by_cases h:n<0
  · rw [if_pos h]
    go_enter Tryz.func217,Tryz.ntmps217
    go_wp2
    go_ret
    exact ⟨rfl,rfl⟩
  · rw [if_neg h]
    go_enter Tryz.func217,Tryz.ntmps217
    go_wp2
    go_ret
    exact ⟨rfl,rfl⟩
theorem zds (n:Int) (w:World):Calls Tryz.prog 210 #[.int .i64 n] w fun e w'=>e=.returned (.int .u64 (if n≤0 then 0 else IntKind.u64.wrap (IntKind.u64.wrap (1*2 ^ min (IntKind.u64.wrap n).toNat 64) - 1)))∧w=w':=by
  by_cases h:n≤0
  · rw [if_pos h]
    go_enter Tryz.func210,Tryz.ntmps210
    go_wp2
    go_ret
    exact ⟨rfl,rfl⟩
  · rw [if_neg h]
    go_enter Tryz.func210,Tryz.ntmps210
    go_wp2
    go_ret
    exact ⟨rfl,rfl⟩
theorem z4i (X:Nat) (n:Int) (hX:X<2 ^ 64) (h0 : -(2 ^ 63)≤n) (h1:n<2 ^ 63) (w:World):Calls Tryz.prog 217 #[.int .u64 (X:Int),.int .i64 n] w fun e w'=>e=.returned (.int .u64 ((SHR X n:Nat):Int))∧w=w':=
  (z6m X n w).mono fun e w' h=>by rw [z5J hX h0 h1] at h;exact h
theorem zfa (n:Int) (h1:n<2 ^ 63) (w:World):Calls Tryz.prog 210 #[.int .i64 n] w fun e w'=>e=.returned (.int .u64 ((MASK n:Nat):Int))∧w=w':=
  (zds n w).mono fun e w' h=>by rw [z8X h1] at h;exact h
end Go.Proofs.YtnmalbngdhjhjaaGreatDoor

namespace Go.Proofs.YtnmalbngdhjhjaaGreatDoor
open Go.RowKit
def DSUM (w:Nat):Nat→Nat→Nat
  | 0,_=>0
  | n+1,x=>x % 2 ^ w+DSUM w n (x / 2 ^ w)
def MSK (k:Nat):Nat→Nat
  | 0=>0
  | n+1=>(2 ^ k - 1)+2 ^ (2*k)*MSK k n
def ADDF (k:Nat):Nat→Nat→Nat
  | 0,_=>0
  | n+1,x=>(x % 2 ^ k+x / 2 ^ k % 2 ^ k)+2 ^ (2*k)*ADDF k n (x / 2 ^ (2*k))
def DLE (w D:Nat):Nat→Nat→Prop
  | 0,_=>True
  | n+1,x=>x % 2 ^ w≤D∧DLE w D n (x / 2 ^ w)
theorem z6P (b q r s t:Nat) (hr:r<2 ^ b) (hs:s<2 ^ b):(r+2 ^ b*q) &&& (s+2 ^ b*t)=(r &&& s)+2 ^ b*(q &&& t):=by
  rw [Nat.add_comm r,Nat.add_comm s,Nat.add_comm (r &&& s)]
  apply Nat.eq_of_testBit_eq
  intro i
  have hrs:r &&& s<2 ^ b:=Nat.lt_of_le_of_lt Nat.and_le_left hr
  rw [Nat.testBit_and,Nat.testBit_two_pow_mul_add _ hr,Nat.testBit_two_pow_mul_add _ hs,Nat.testBit_two_pow_mul_add _ hrs]
  split
  · rw [Nat.testBit_and]
  · rw [Nat.testBit_and]
theorem z22 (k:Nat):2 ^ (2*k)=2 ^ k*2 ^ k:=by rw [Nat.two_mul,Nat.pow_add]
theorem zbT (k:Nat):2 ^ k - 1<2 ^ (2*k):=by
  have h1:2 ^ k≤2 ^ (2*k):=Nat.pow_le_pow_right (by decide) (by omega)
  have h2:=Nat.two_pow_pos k
  omega
theorem zgk (k x:Nat):x=x % 2 ^ (2*k)+2 ^ (2*k)*(x / 2 ^ (2*k)):=(Nat.mod_add_div _ _).symm
theorem zdt (k x:Nat):x % 2 ^ (2*k) % 2 ^ k=x % 2 ^ k:=Nat.mod_mod_of_dvd _ ⟨2 ^ k,z22 k⟩
theorem z9U (k:Nat):∀ (n x:Nat),x &&& MSK k (n+1)=x % 2 ^ k+2 ^ (2*k)*(x / 2 ^ (2*k) &&& MSK k n):=fun n x=>by
  conv=>lhs;rw [zgk k x]
  show _ &&& ((2 ^ k - 1)+2 ^ (2*k)*MSK k n)=_
  rw [z6P _ _ _ _ _ (Nat.mod_lt _ (Nat.two_pow_pos _)) (zbT k),Nat.and_two_pow_sub_one_eq_mod,zdt]
theorem zdu (k x:Nat):x / 2 ^ k / 2 ^ (2*k)=x / 2 ^ (2*k) / 2 ^ k:=by rw [Nat.div_div_eq_div_mul,Nat.div_div_eq_div_mul,Nat.mul_comm]
theorem z6n (k:Nat):∀ (n x:Nat),(x / 2 ^ k &&& MSK k n)+(x &&& MSK k n)=ADDF k n x
  | 0,x=>by simp [MSK,ADDF]
  | n+1,x=>by
    rw [z9U,z9U,zdu,ADDF,← z6n k n (x / 2 ^ (2*k)),Nat.mul_add]
    omega
theorem zaF {k:Nat} (hk:1≤k):2≤2 ^ k:=Nat.le_trans (by decide) (Nat.pow_le_pow_right (n:=2) (by decide) hk)
theorem z6o {k:Nat} (hk:1≤k) (x:Nat):x % 2 ^ k+x / 2 ^ k % 2 ^ k<2 ^ (2*k):=by
  have h1:=Nat.mod_lt x (Nat.two_pow_pos k)
  have h2:=Nat.mod_lt (x / 2 ^ k) (Nat.two_pow_pos k)
  have h3:2*2 ^ k≤2 ^ k*2 ^ k:=Nat.mul_le_mul_right _ (zaF hk)
  rw [z22]
  omega
theorem z7F {k:Nat} (hk:1≤k) (n x:Nat):ADDF k (n+1) x % 2 ^ (2*k)=x % 2 ^ k+x / 2 ^ k % 2 ^ k:=by
  rw [ADDF,Nat.add_mul_mod_self_left,Nat.mod_eq_of_lt (z6o hk x)]
theorem z6Q {k:Nat} (hk:1≤k) (n x:Nat):ADDF k (n+1) x / 2 ^ (2*k)=ADDF k n (x / 2 ^ (2*k)):=by
  rw [ADDF,Nat.add_mul_div_left _ _ (Nat.two_pow_pos _),Nat.div_eq_of_lt (z6o hk x),Nat.zero_add]
theorem z38 {k:Nat} (hk:1≤k):∀ (n x:Nat),DSUM (2*k) n (ADDF k n x)=DSUM k (2*n) x
  | 0,x=>rfl
  | n+1,x=>by
    rw [DSUM,z7F hk,z6Q hk,z38 hk n,show 2*(n+1)=2*n+1+1 by omega,DSUM,DSUM,Nat.div_div_eq_div_mul,← z22]
    omega
theorem z3E {k D:Nat} (hk:1≤k):∀ (n x:Nat),DLE k D (2*n) x→DLE (2*k) (2*D) n (ADDF k n x)
  | 0,_,_=>trivial
  | n + 1,x,h=>by
    rw [show 2*(n+1)=2*n+1+1 by omega] at h
    obtain ⟨h1,h2,h3⟩:=h
    refine ⟨?_,?_⟩
    · rw [z7F hk]
      omega
    · rw [z6Q hk]
      refine z3E hk n _ ?_
      rw [Nat.div_div_eq_div_mul,← z22] at h3
      exact h3
theorem z7G:∀ (n x:Nat),DLE 1 1 n x
  | 0,_=>trivial
  | n+1,_=>⟨by omega,z7G n _⟩
theorem z6R {k D:Nat} (hk:1≤k) (hD:2*D<2 ^ k):∀ (n x:Nat),x<2 ^ (2*k*n)→DLE k D (2*n) x→(x / 2 ^ k+x) &&& MSK k n=ADDF k n x
  | 0,x,_,_=>by simp [MSK,ADDF]
  | n + 1,x,hx,h=>by
    rw [show 2*(n+1)=2*n+1+1 by omega] at h
    obtain ⟨h1,h2,h3⟩:=h
    rw [Nat.div_div_eq_div_mul,← z22] at h3
    have hq:x / 2 ^ (2*k)<2 ^ (2*k*n):=Nat.div_lt_of_lt_mul (by rw [← Nat.pow_add,show 2*k+2*k*n=2*k*(n+1) by rw [Nat.mul_add,Nat.mul_one,Nat.add_comm]];exact hx)
    have ih:=z6R hk hD n (x / 2 ^ (2*k)) hq h3
    have hq0:x / 2 ^ (2*k) % 2 ^ k≤D:=by
      cases n with
      | zero=>
        have:x / 2 ^ (2*k)=0:=by simpa using hq
        rw [this]
        simp
      | succ n=>exact h3.1
    have hp:=Nat.two_pow_pos k
    have e1:x=x % 2 ^ k+2 ^ k*(x / 2 ^ k % 2 ^ k)+2 ^ k*2 ^ k*(x / 2 ^ (2*k)):=by
      have a:=(Nat.mod_add_div x (2 ^ k)).symm
      have b:=(Nat.mod_add_div (x / 2 ^ k) (2 ^ k)).symm
      rw [Nat.div_div_eq_div_mul,← z22] at b
      conv=>lhs;rw [a,b]
      rw [Nat.mul_add,← Nat.mul_assoc,Nat.add_assoc]
    have e2:x / 2 ^ k=x / 2 ^ k % 2 ^ k+2 ^ k*(x / 2 ^ (2*k) % 2 ^ k)+2 ^ k*2 ^ k*(x / 2 ^ (2*k) / 2 ^ k):=by
      have a:=(Nat.mod_add_div (x / 2 ^ k) (2 ^ k)).symm
      rw [Nat.div_div_eq_div_mul,← z22] at a
      have b:=(Nat.mod_add_div (x / 2 ^ (2*k)) (2 ^ k)).symm
      conv=>lhs;rw [a,b]
      rw [Nat.mul_add,← Nat.mul_assoc,Nat.add_assoc]
    have e3:x / 2 ^ k+x=(x % 2 ^ k+x / 2 ^ k % 2 ^ k+2 ^ k*(x / 2 ^ k % 2 ^ k+x / 2 ^ (2*k) % 2 ^ k))+2 ^ (2*k)*(x / 2 ^ (2*k) / 2 ^ k+x / 2 ^ (2*k)):=by
      conv=>lhs;rw [e2];arg 2;rw [e1]
      rw [z22,Nat.mul_add,Nat.mul_add]
      omega
    have hlow:x % 2 ^ k+x / 2 ^ k % 2 ^ k+2 ^ k*(x / 2 ^ k % 2 ^ k+x / 2 ^ (2*k) % 2 ^ k)<2 ^ (2*k):=by
      have h4:2 ^ k*(x / 2 ^ k % 2 ^ k+x / 2 ^ (2*k) % 2 ^ k)≤2 ^ k*(2 ^ k - 1):=Nat.mul_le_mul_left _ (by omega)
      rw [Nat.mul_sub,Nat.mul_one] at h4
      have h5:2 ^ k≤2 ^ k*2 ^ k:=Nat.le_mul_of_pos_left _ hp
      have h6:=z22 k
      generalize 2 ^ k*(x / 2 ^ k % 2 ^ k+x / 2 ^ (2*k) % 2 ^ k)=y at h4
      generalize x / 2 ^ (2*k) % 2 ^ k=z at *
      generalize 2 ^ k*2 ^ k=u at *
      generalize 2 ^ (2*k)=v at *
      omega
    rw [e3]
    show _ &&& ((2 ^ k - 1)+2 ^ (2*k)*MSK k n)=_
    rw [z6P _ _ _ _ _ hlow (zbT k),Nat.and_two_pow_sub_one_eq_mod,ih,Nat.add_mul_mod_self_left,Nat.mod_eq_of_lt (by omega),ADDF]
def POP (X:Nat):Nat:=DSUM 1 64 X
theorem zh1:MSK 1 32=6148914691236517205:=by decide
theorem zh2:MSK 2 16=3689348814741910323:=by decide
theorem zh3:MSK 4 8=1085102592571150095:=by decide
theorem z4M {k:Nat} (hk:1≤k):∀ (n x:Nat),ADDF k n x<2 ^ (2*k*n)
  | 0,_=>by simp [ADDF]
  | n+1,x=>by
    have h1:=z4M hk n (x / 2 ^ (2*k))
    have h2:=z6o hk x
    rw [ADDF,show 2*k*(n+1)=2*k*n+2*k by rw [Nat.mul_add,Nat.mul_one],Nat.pow_add]
    have h3:2 ^ (2*k)*ADDF k n (x / 2 ^ (2*k))≤2 ^ (2*k)*(2 ^ (2*k*n) - 1):=Nat.mul_le_mul_left _ (by omega)
    rw [Nat.mul_sub,Nat.mul_one,Nat.mul_comm _ (2 ^ (2*k*n))] at h3
    have h4:2 ^ (2*k)≤2 ^ (2*k*n)*2 ^ (2*k):=Nat.le_mul_of_pos_left _ (Nat.two_pow_pos _)
    omega
theorem z6p {a b q:Nat} (h:b<a):(b+a*q) / a=q:=by rw [Nat.add_mul_div_left _ _ (by omega),Nat.div_eq_of_lt h,Nat.zero_add]
theorem zgl {d0 d1 d2 x R1 R2 R3:Nat} (e0:x=d0+256*R1) (e1:R1=d1+256*R2) (e2:R2=d2+256*R3):x+R1=(d0+d1+256*(d1+d2))+65536*(R2+R3):=by
  subst e0 e1 e2
  omega
theorem zgm {d0 d1 d2 d3 d4 d5 d6 d7 x R1 R2 R3 R4 R5 R6:Nat} (e0:x=d0+256*R1) (e1:R1=d1+256*R2) (e2:R2=d2+256*R3) (e3:R3=d3+256*R4) (e4:R4=d4+256*R5) (e5:R5=d5+256*R6) (e6:R6=d6+256*d7):
    x+R1+(R2+R3)=(d0+d1+d2+d3+256*(d1+d2+d3+d4)+65536*(d2+d3+d4+d5)+16777216*(d3+d4+d5+d6))+4294967296*(R4+R5+R6+d7):=by
  subst e0 e1 e2 e3 e4 e5 e6
  omega
theorem zgn {d0 d1 d2 d3 d4 d5 d6 d7 x R1 R2 R3 R4 R5 R6:Nat} (e0:x=d0+256*R1) (e1:R1=d1+256*R2) (e2:R2=d2+256*R3) (e3:R3=d3+256*R4) (e4:R4=d4+256*R5) (e5:R5=d5+256*R6) (e6:R6=d6+256*d7):
    x+R1+(R2+R3)+(R4+R5+R6+d7)=(d0+(d1+(d2+(d3+(d4+(d5+(d6+d7)))))))+128*(2*(R1+R2+R3+R4+R5+R6+d7)):=by
  rw [e0]
  have h:R1+(R2+R3)+(R4+R5+R6+d7)=(d1+256*R2)+((d2+256*R3)+(d3+256*R4))+((d4+256*R5)+(d5+256*R6)+(d6+256*d7)+d7):=by
    rw [← e1,← e2,← e3,← e4,← e5,← e6]
  clear e0 e1 e2 e3 e4 e5 e6
  omega
theorem z3F {d7 d6 R6:Nat} {B:Nat} (e6:R6=d6+256*d7) (h6:d6≤8) (h7:d7≤B):R6≤8+256*B:=by
  subst e6
  omega
theorem zdv {d0 d1 d2:Nat} (h0:d0≤8) (h1:d1≤8) (h2:d2≤8):d0+d1+256*(d1+d2)<65536:=by omega
theorem zdw {d0 d1 d2 d3 d4 d5 d6:Nat} (h0:d0≤8) (h1:d1≤8) (h2:d2≤8) (h3:d3≤8) (h4:d4≤8) (h5:d5≤8) (h6:d6≤8):d0+d1+d2+d3+256*(d1+d2+d3+d4)+65536*(d2+d3+d4+d5)+16777216*(d3+d4+d5+d6)<4294967296:=by omega
theorem zdx {d0 d1 d2 d3 d4 d5 d6 d7:Nat} (h0:d0≤8) (h1:d1≤8) (h2:d2≤8) (h3:d3≤8) (h4:d4≤8) (h5:d5≤8) (h6:d6≤8) (h7:d7≤8):d0+(d1+(d2+(d3+(d4+(d5+(d6+d7))))))<128:=by omega
theorem zfb {x R1 R2 R3 R4 R5 R6 d7:Nat} (h7:d7≤8) (b6:R6≤8+256*8) (b5:R5≤8+256*(8+256*8)) (b4:R4≤8+256*(8+256*(8+256*8))) (b3:R3≤8+256*(8+256*(8+256*(8+256*8)))) (b2:R2≤8+256*(8+256*(8+256*(8+256*(8+256*8))))) (b1:R1≤8+256*(8+256*(8+256*(8+256*(8+256*(8+256*8)))))) (b0:x≤8+256*(8+256*(8+256*(8+256*(8+256*(8+256*(8+256*8))))))):
    x+R1+(R2+R3)+(R4+R5+R6+d7)<2 ^ 64:=by omega
theorem zaG (d0 d1 d2 d3 d4 d5 d6 d7:Nat) (h0:d0≤8) (h1:d1≤8) (h2:d2≤8) (h3:d3≤8) (h4:d4≤8) (h5:d5≤8) (h6:d6≤8) (h7:d7≤8) (x R1 R2 R3 R4 R5 R6:Nat)
    (e0:x=d0+256*R1) (e1:R1=d1+256*R2) (e2:R2=d2+256*R3) (e3:R3=d3+256*R4) (e4:R4=d4+256*R5) (e5:R5=d5+256*R6) (e6:R6=d6+256*d7):
    (x+x / 256+(x+x / 256) / 65536+(x+x / 256+(x+x / 256) / 65536) / 4294967296) % 128=d0+(d1+(d2+(d3+(d4+(d5+(d6+d7))))))∧x+x / 256+(x+x / 256) / 65536+(x+x / 256+(x+x / 256) / 65536) / 4294967296<2 ^ 64:=by
  have q1:x / 256=R1:=by rw [e0];exact z6p (Nat.lt_of_le_of_lt h0 (by decide))
  have q2:(x+R1) / 65536=R2+R3:=by rw [zgl e0 e1 e2];exact z6p (zdv h0 h1 h2)
  have q3:(x+R1+(R2+R3)) / 4294967296=R4+R5+R6+d7:=by rw [zgm e0 e1 e2 e3 e4 e5 e6];exact z6p (zdw h0 h1 h2 h3 h4 h5 h6)
  rw [q1,q2,q3]
  have b6:=z3F e6 h6 h7
  have b5:=z3F e5 h5 b6
  have b4:=z3F e4 h4 b5
  have b3:=z3F e3 h3 b4
  have b2:=z3F e2 h2 b3
  have b1:=z3F e1 h1 b2
  have b0:=z3F e0 h0 b1
  refine ⟨?_,zfb h7 b6 b5 b4 b3 b2 b1 b0⟩
  rw [zgn e0 e1 e2 e3 e4 e5 e6,Nat.add_mul_mod_self_left,Nat.mod_eq_of_lt (zdx h0 h1 h2 h3 h4 h5 h6 h7)]
theorem zdy {x:Nat} (hx:x<2 ^ 64) (h:DLE 8 8 8 x):(x+x / 256+(x+x / 256) / 65536+(x+x / 256+(x+x / 256) / 65536) / 4294967296) % 128=DSUM 8 8 x∧x+x / 256+(x+x / 256) / 65536+(x+x / 256+(x+x / 256) / 65536) / 4294967296<2 ^ 64:=by
  obtain ⟨h0,h1,h2,h3,h4,h5,h6,h7,_⟩:=h
  simp only [DSUM,Nat.add_zero]
  simp only [Nat.reducePow] at *
  have l7:x / 256 / 256 / 256 / 256 / 256 / 256 / 256<256:=by
    have e:x / 256 / 256 / 256 / 256 / 256 / 256 / 256=x / 72057594037927936:=by simp only [Nat.div_div_eq_div_mul]
    rw [e]
    exact Nat.div_lt_of_lt_mul hx
  rw [Nat.mod_eq_of_lt l7] at h7 ⊢
  exact zaG _ _ _ _ _ _ _ _ h0 h1 h2 h3 h4 h5 h6 h7 x (x / 256) (x / 256 / 256) (x / 256 / 256 / 256) (x / 256 / 256 / 256 / 256) (x / 256 / 256 / 256 / 256 / 256) (x / 256 / 256 / 256 / 256 / 256 / 256)
    (Nat.mod_add_div _ _).symm (Nat.mod_add_div _ _).symm (Nat.mod_add_div _ _).symm (Nat.mod_add_div _ _).symm (Nat.mod_add_div _ _).symm (Nat.mod_add_div _ _).symm (Nat.mod_add_div _ _).symm
def X1 (X:Nat):Nat:=(X / 2 &&& 6148914691236517205)+(X &&& 6148914691236517205)
def X2 (X:Nat):Nat:=(X1 X / 4 &&& 3689348814741910323)+(X1 X &&& 3689348814741910323)
def X3 (X:Nat):Nat:=(X2 X / 16+X2 X) &&& 1085102592571150095
theorem zaH (X:Nat):X1 X=ADDF 1 32 X:=by
  have:=z6n 1 32 X
  rw [zh1] at this
  exact this
theorem zaI (X:Nat):X2 X=ADDF 2 16 (X1 X):=by
  have:=z6n 2 16 (X1 X)
  rw [zh2] at this
  exact this
theorem zaJ (X:Nat):DLE 4 4 16 (X2 X):=by
  rw [zaI]
  refine z3E (k:=2) (D:=2) (by decide) 16 _ ?_
  rw [zaH]
  exact z3E (k:=1) (D:=1) (by decide) 32 _ (z7G 64 X)
theorem zf5 (X:Nat):X2 X<2 ^ 64:=by
  rw [zaI]
  exact z4M (k:=2) (by decide) 16 _
theorem zaK (X:Nat):X3 X=ADDF 4 8 (X2 X):=by
  have:=z6R (k:=4) (D:=4) (by decide) (by decide) 8 (X2 X) (zf5 X) (zaJ X)
  rw [zh3] at this
  exact this
theorem zh4 (X:Nat):DLE 8 8 8 (X3 X):=by
  rw [zaK]
  exact z3E (k:=4) (D:=4) (by decide) 8 _ (zaJ X)
theorem zh5 (X:Nat):X3 X<2 ^ 64:=by
  rw [zaK]
  exact z4M (k:=4) (by decide) 8 _
theorem zgo (X:Nat):DSUM 8 8 (X3 X)=POP X:=by
  rw [zaK]
  have a:=z38 (k:=4) (by decide) 8 (X2 X)
  have b:=z38 (k:=2) (by decide) 16 (X1 X)
  have c:=z38 (k:=1) (by decide) 32 X
  rw [← zaI] at b
  rw [← zaH] at c
  exact a.trans (b.trans c)
end Go.Proofs.YtnmalbngdhjhjaaGreatDoor

namespace Go.Proofs.YtnmalbngdhjhjaaGreatDoor
open Go.RowKit
theorem zdz (x x1 x2 x3 x4 x5 x6 r:Int) (w:World)
    (e1:IntKind.u64.wrap (bits .and .u64 (x / 2) 6148914691236517205+bits .and .u64 x 6148914691236517205)=x1)
    (e2:IntKind.u64.wrap (bits .and .u64 (x1 / 4) 3689348814741910323+bits .and .u64 x1 3689348814741910323)=x2)
    (e3:bits .and .u64 (IntKind.u64.wrap (x2 / 16+x2)) 1085102592571150095=x3)
    (e4:IntKind.u64.wrap (x3+x3 / 256)=x4) (e5:IntKind.u64.wrap (x4+x4 / 65536)=x5) (e6:IntKind.u64.wrap (x5+x5 / 4294967296)=x6)
    (e7:bits .and .i64 (wrap64 x6) 127=r):
    Calls Tryz.prog 114 #[.int .u64 x] w fun e w'=>e=.returned (.int .i64 r)∧w=w':=by
  go_enter Tryz.func114,Tryz.ntmps114
  go_wp2
  go_ret
  exact ⟨rfl,rfl⟩
theorem z0P {a:Nat} {A:Int} (e:A=(a:Int)) (h:a<2 ^ 64):IntKind.u64.wrap A=(a:Int):=by rw [z0a,e];omega
theorem z1S {a c:Nat} {A C:Int} (eA:A=(a:Int)) (eC:C=(c:Int)) (ha:a<2 ^ 64) (hc:c<2 ^ 64):bits .and .u64 A C=((a &&& c:Nat):Int):=by
  subst eA eC
  exact z4h ha hc
theorem z9V {w D:Nat}:∀ (n x:Nat),DLE w D (n+1) x→x / 2 ^ (w*n) % 2 ^ w≤D
  | 0,x,h=>by simpa using h.1
  | n+1,x,h=>by
    have:=z9V n (x / 2 ^ w) h.2
    rw [Nat.div_div_eq_div_mul,← Nat.pow_add,show w+w*n=w*(n+1) by rw [Nat.mul_add,Nat.mul_one,Nat.add_comm]] at this
    exact this
theorem zfc (y p:Nat) (h:y % 128=p):bits .and .i64 (wrap64 (y:Int)) 127=(p:Int):=by
  rw [zgj]
  unfold wrap64
  omega
theorem z4j (X:Nat) (hX:X<2 ^ 64) (w:World):Calls Tryz.prog 114 #[.int .u64 (X:Int)] w fun e w'=>e=.returned (.int .i64 ((POP X:Nat):Int))∧w=w':=by
  have h1:X1 X<2 ^ 64:=by rw [zaH];exact z4M (k:=1) (by decide) 32 _
  have h2:=zf5 X
  have h3:=zh5 X
  have h16:X2 X / 16+X2 X<2 ^ 64:=by
    have ht:=z9V 15 (X2 X) (zaJ X)
    simp only [Nat.reducePow,Nat.reduceMul] at ht h2 ⊢
    generalize X2 X=y at *
    omega
  have hl:=zdy h3 (zh4 X)
  rw [zgo] at hl
  have hlt:=hl.2
  have hle4:X3 X+X3 X / 256<2 ^ 64:=Nat.lt_of_le_of_lt (by generalize X3 X+X3 X / 256=y;omega) hlt
  have hle5:X3 X+X3 X / 256+(X3 X+X3 X / 256) / 65536<2 ^ 64:=Nat.lt_of_le_of_lt (by generalize X3 X+X3 X / 256+(X3 X+X3 X / 256) / 65536=y;omega) hlt
  refine zdz X (X1 X:Nat) (X2 X:Nat) (X3 X:Nat) (X3 X+X3 X / 256:Nat) (X3 X+X3 X / 256+(X3 X+X3 X / 256) / 65536:Nat) (X3 X+X3 X / 256+(X3 X+X3 X / 256) / 65536+(X3 X+X3 X / 256+(X3 X+X3 X / 256) / 65536) / 4294967296:Nat) _ w ?_ ?_ ?_ ?_ ?_ ?_ ?_
  · have a1:bits .and .u64 ((X:Int) / 2) 6148914691236517205=((X / 2 &&& 6148914691236517205:Nat):Int):=z1S (by simp) rfl (by omega) (by decide)
    have a2:bits .and .u64 (X:Int) 6148914691236517205=((X &&& 6148914691236517205:Nat):Int):=z1S rfl rfl hX (by decide)
    rw [a1,a2]
    exact z0P (by unfold X1;rw [Int.natCast_add]) h1
  · have a1:bits .and .u64 (((X1 X:Nat):Int) / 4) 3689348814741910323=((X1 X / 4 &&& 3689348814741910323:Nat):Int):=z1S (by simp) rfl (by omega) (by decide)
    have a2:bits .and .u64 ((X1 X:Nat):Int) 3689348814741910323=((X1 X &&& 3689348814741910323:Nat):Int):=z1S rfl rfl h1 (by decide)
    rw [a1,a2]
    exact z0P (by unfold X2;rw [Int.natCast_add]) h2
  · have a0:IntKind.u64.wrap (((X2 X:Nat):Int) / 16+((X2 X:Nat):Int))=((X2 X / 16+X2 X:Nat):Int):=z0P (by simp) h16
    rw [a0]
    exact z1S rfl rfl h16 (by decide)
  · exact z0P (by simp) hle4
  · exact z0P (by simp) hle5
  · exact z0P (by simp) hlt
  · exact zfc _ _ hl.1
theorem z7H (x r:Int) (w:World) (c:∀ w,Calls Tryz.prog 114 #[.int .u64 x] w fun e w'=>e=.returned (.int .i64 r)∧w=w'):
    Calls Tryz.prog 156 #[.int .u64 x] w fun e w'=>e=.returned (.int .i64 r)∧w=w':=by
  go_enter Tryz.func156,Tryz.ntmps156
  go_wp2_with fail
  refine (c _).mono ?_
  rintro e w' ⟨rfl,rfl⟩
  go_wp2
  go_ret
  exact ⟨rfl,rfl⟩
theorem z9W (X:Nat) (hX:X<2 ^ 64) (w:World):Calls Tryz.prog 156 #[.int .u64 (X:Int)] w fun e w'=>e=.returned (.int .i64 ((POP X:Nat):Int))∧w=w':=
  z7H X _ w (fun w=>z4j X hX w)
end Go.Proofs.YtnmalbngdhjhjaaGreatDoor

namespace Go.Proofs.YtnmalbngdhjhjaaGreatDoor.HX
open Go.RowKit
def ROTR (n x:Nat):Nat:=x / 2 ^ n+x % 2 ^ n*2 ^ (32 - n)
theorem z0p {n x:Nat} (hn:n≤32) (hx:x<2 ^ 32):ROTR n x<2 ^ 32:=by
  unfold ROTR
  have h1:(2:Nat) ^ 32=2 ^ n*2 ^ (32 - n):=by rw [← Nat.pow_add];congr 1;omega
  have h2:x / 2 ^ n<2 ^ (32 - n):=by
    apply Nat.div_lt_of_lt_mul
    rw [← h1];exact hx
  have h3:x % 2 ^ n+1≤2 ^ n:=Nat.mod_lt _ (Nat.two_pow_pos n)
  have h4:=Nat.mul_le_mul_right (2 ^ (32 - n)) h3
  rw [Nat.add_mul,Nat.one_mul,← h1] at h4
  omega
theorem zgp {n x:Nat} (hn:n≤32) (hx:x<2 ^ 32):x*2 ^ (32 - n) % 2 ^ 32 ||| x / 2 ^ n=ROTR n x:=by
  have h1:(2:Nat) ^ 32=2 ^ n*2 ^ (32 - n):=by rw [← Nat.pow_add];congr 1;omega
  have h2:x / 2 ^ n<2 ^ (32 - n):=by
    apply Nat.div_lt_of_lt_mul
    rw [← h1];exact hx
  have h3:x*2 ^ (32 - n) % 2 ^ 32=x % 2 ^ n*2 ^ (32 - n):=by
    rw [h1,Nat.mul_mod_mul_right]
  rw [h3,nat_join (32 - n) _ _ (Nat.mul_mod_left _ _) h2]
  unfold ROTR
  omega
def MIX (i j k x:Nat):Nat:=ROTR i x ^^^ ROTR j x ^^^ ROTR k x
def z17 (i j k x:Nat):Nat:=ROTR i x ^^^ ROTR j x ^^^ x / 2 ^ k
def CHO (x y z:Nat):Nat:=(x &&& y) ^^^ ((4294967295 - x) &&& z)
def MAJ (x y z:Nat):Nat:=(x &&& y) ^^^ (x &&& z) ^^^ (y &&& z)
theorem zbU {i j k x:Nat} (hi:i≤32) (hj:j≤32) (hk:k≤32) (hx:x<2 ^ 32):MIX i j k x<2 ^ 32:=Nat.xor_lt_two_pow (Nat.xor_lt_two_pow (z0p hi hx) (z0p hj hx)) (z0p hk hx)
theorem z7I {i j k x:Nat} (hi:i≤32) (hj:j≤32) (hx:x<2 ^ 32):z17 i j k x<2 ^ 32:=Nat.xor_lt_two_pow (Nat.xor_lt_two_pow (z0p hi hx) (z0p hj hx)) (Nat.lt_of_le_of_lt (Nat.div_le_self _ _) hx)
theorem zbV {x y z:Nat} (hx:x<2 ^ 32) (hz:z<2 ^ 32):CHO x y z<2 ^ 32:=Nat.xor_lt_two_pow (Nat.lt_of_le_of_lt Nat.and_le_left hx) (Nat.lt_of_le_of_lt Nat.and_le_right hz)
theorem zbW {x y z:Nat} (hx:x<2 ^ 32) (hy:y<2 ^ 32):MAJ x y z<2 ^ 32:=Nat.xor_lt_two_pow (Nat.xor_lt_two_pow (Nat.lt_of_le_of_lt Nat.and_le_left hx) (Nat.lt_of_le_of_lt Nat.and_le_left hx)) (Nat.lt_of_le_of_lt Nat.and_le_left hy)
def z0c (s:Nat→Nat) (o:Nat):Nat:=s o*16777216+s (o+1)*65536+s (o+2)*256+s (o+3)
theorem z19 {s:Nat→Nat} (o:Nat) (h:∀ i,s i<256):z0c s o<2 ^ 32:=by
  have h0:=h o;have h1:=h (o+1);have h2:=h (o+2);have h3:=h (o+3)
  unfold z0c
  omega
def SCHL (b:Nat→Nat):Nat→Nat→Nat
  | 0,t=>if t<16 then z0c b (4*t) else 0
  | k+1,t=>if t=16+k then (z17 17 19 10 (SCHL b k (14+k))+SCHL b k (9+k)+z17 7 18 3 (SCHL b k (1+k))+SCHL b k k) % 4294967296 else SCHL b k t
def SCH (b:Nat→Nat):Nat→Nat:=SCHL b 48
theorem z1T {b:Nat→Nat} (h:∀ i,b i<256):∀ k t,SCHL b k t<2 ^ 32
  | 0,t=>by
    unfold SCHL
    split
    · exact z19 _ h
    · decide
  | k+1,t=>by
    unfold SCHL
    split
    · exact Nat.mod_lt _ (by decide)
    · exact z1T h k t
theorem z5L (b:Nat→Nat) (k:Nat):∀ m t,t<16+k→SCHL b (k+m) t=SCHL b k t
  | 0,_,_=>rfl
  | m+1,t,h=>by
    show SCHL b (k+m+1) t=_
    rw [SCHL,if_neg (by omega)]
    exact z5L b k m t h
def KLIST:List Nat:=[1116352408,1899447441,3049323471,3921009573,961987163,1508970993,2453635748,2870763221,3624381080,310598401,607225278,1426881987,1925078388,2162078206,2614888103,3248222580,3835390401,4022224774,264347078,604807628,770255983,1249150122,1555081692,1996064986,2554220882,2821834349,2952996808,3210313671,3336571891,3584528711,113926993,338241895,666307205,773529912,1294757372,1396182291,1695183700,1986661051,2177026350,2456956037,2730485921,2820302411,3259730800,3345764771,3516065817,3600352804,4094571909,275423344,430227734,506948616,659060556,883997877,958139571,1322822218,1537002063,1747873779,1955562222,2024104815,2227730452,2361852424,2428436474,2756734187,3204031479,3329325298]
def KC (t:Nat):Nat:=KLIST.getD t 0
theorem zh6 (t:Nat):KC t<2 ^ 32:=by
  by_cases h:t<64
  · have:∀ i,i<64→KC i<2 ^ 32:=by decide
    exact this t h
  · have:KLIST.length=64:=rfl
    unfold KC
    rw [List.getD_eq_getElem?_getD,List.getElem?_eq_none (by omega)]
    decide
structure ST where
  a:Nat
  b:Nat
  c:Nat
  d:Nat
  e:Nat
  f:Nat
  g:Nat
  h:Nat
def T1 (k x:Nat) (s:ST):Nat:=(s.h+MIX 6 11 25 s.e+CHO s.e s.f s.g+k+x) % 4294967296
def T2 (s:ST):Nat:=(MIX 2 13 22 s.a+MAJ s.a s.b s.c) % 4294967296
def RND (k x:Nat) (s:ST):ST:={a:=(T1 k x s+T2 s) % 4294967296,b:=s.a,c:=s.b,d:=s.c,e:=(s.d+T1 k x s) % 4294967296,f:=s.e,g:=s.f,h:=s.g}
def Small (s:ST):Prop:=s.a<2 ^ 32∧s.b<2 ^ 32∧s.c<2 ^ 32∧s.d<2 ^ 32∧s.e<2 ^ 32∧s.f<2 ^ 32∧s.g<2 ^ 32∧s.h<2 ^ 32
theorem Small.rnd {s:ST} (h:Small s) (k x:Nat):Small (RND k x s):=by
  obtain ⟨h1,h2,h3,h4,h5,h6,h7,h8⟩:=h
  exact ⟨Nat.mod_lt _ (by decide),h1,h2,h3,Nat.mod_lt _ (by decide),h5,h6,h7⟩
def RUN (x:Nat→Nat) (s:ST):Nat→ST
  | 0=>s
  | t+1=>RND (KC t) (x t) (RUN x s t)
theorem z4k (x:Nat→Nat) {s:ST} (h:Small s):∀ t,Small (RUN x s t)
  | 0=>h
  | t+1=>(z4k x h t).rnd _ _
def STOF (s:Nat→Nat):ST:={a:=z0c s 0,b:=z0c s 4,c:=z0c s 8,d:=z0c s 12,e:=z0c s 16,f:=z0c s 20,g:=z0c s 24,h:=z0c s 28}
theorem z5M {s:Nat→Nat} (h:∀ i,s i<256):Small (STOF s):=
  ⟨z19 _ h,z19 _ h,z19 _ h,z19 _ h,z19 _ h,z19 _ h,z19 _ h,z19 _ h⟩
def ST.at (s:ST):Nat→Nat
  | 0=>s.a
  | 1=>s.b
  | 2=>s.c
  | 3=>s.d
  | 4=>s.e
  | 5=>s.f
  | 6=>s.g
  | 7=>s.h
  | _=>0
def OUTW (s b:Nat→Nat) (i:Nat):Nat:=(z0c s (4*i)+(RUN (SCH b) (STOF s) 64).at i) % 4294967296
def z0e (x:Nat→Nat) (i:Nat):Nat:=x (i / 4) / 2 ^ (24 - 8*(i % 4)) % 256
def WID (w:Int):Nat:=(min (max w 1) 32).toNat
def z0v (w:Int) (s:Nat→Nat) (i:Nat):Nat:=if i<WID w then s i else 0
def COMP (w:Int) (s b:Nat→Nat):Nat→Nat:=z0v w (z0e (OUTW s b))
theorem z7J (x:Nat→Nat) (i:Nat):z0e x i<256:=Nat.mod_lt _ (by decide)
theorem z6S {w:Int} {s:Nat→Nat} (h:∀ i,s i<256) (i:Nat):z0v w s i<256:=by
  unfold z0v
  split
  · exact h i
  · decide
theorem zfd (w:Int) (s b:Nat→Nat) (i:Nat):COMP w s b i<256:=z6S (z7J _) i
theorem zaL (w:Int):1≤WID w∧WID w≤32:=by unfold WID;omega
end Go.Proofs.YtnmalbngdhjhjaaGreatDoor.HX

namespace Go.Proofs.YtnmalbngdhjhjaaGreatDoor
open Go.RowKit
def BARR (n:Nat) (f:Nat→Int):Array Value:=((List.range n).map fun i=>Value.int .u8 (f i)).toArray
theorem z1U (n:Nat) (f:Nat→Int):(BARR n f).size=n:=by simp [BARR]
theorem z1z (n:Nat) (f:Nat→Int) (i:Nat) (h:i<n):(BARR n f)[i]?=some (.int .u8 (f i)):=by simp [BARR,h]
theorem z7K {n:Nat} {f g:Nat→Int} (h:∀ i,i<n→f i=g i):BARR n f=BARR n g:=by
  unfold BARR
  congr 1
  apply List.map_congr_left
  intro i hi
  rw [h i (by simpa using hi)]
theorem z5k (n:Nat) (f:Nat→Int) (i:Nat) (v:Int):(BARR n f).setIfInBounds i (.int .u8 v)=BARR n fun j=>if j=i then v else f j:=by
  apply Array.ext_getElem?
  intro j
  by_cases hj:j<n
  · rw [z1z _ _ j hj,Array.getElem?_setIfInBounds]
    by_cases h:i=j
    · subst h
      simp [z1U,hj]
    · have h':¬ j=i:=fun e=>h e.symm
      simp [h,h',z1z _ _ j hj]
  · rw [Array.getElem?_eq_none (by simp [z1U];omega),Array.getElem?_eq_none (by simp [z1U];omega)]
theorem z4l (n:Nat):madeCells #[Value.int .u8 0] n=BARR n fun _=>0:=by
  apply Array.ext_getElem?
  intro j
  by_cases hj:j<n
  · rw [z1z _ _ j hj]
    simp [madeCells,hj,Nat.mod_one]
  · rw [Array.getElem?_eq_none (by simp [madeCells];omega),Array.getElem?_eq_none (by simp [z1U];omega)]
theorem z0M:(Tryz.prog.info? 5).map (fun i=>(i.zero,i.size,i.bytes))=some (some (.int .u8 0),1,1):=by kernel_rfl
theorem z5N (n:Nat) (hn:n≤1000000) (w:World):(Instr.makeSlice 53 (.int .i64 (n:Int)) (.int .i64 (n:Int))).run Tryz.prog w=.ok (.slice (some ⟨w.heap.size,0,none⟩) n n) (w.alloc (.cells (BARR n fun _=>0) 5)):=by
  rw [run_make_row' 53 5 (.int .u8 0) 1 Tryz.underlying53 z0M rfl .i64 .i64 n (by omega) (by omega) w,z4l]
def IsRow (k:IntKind) (w:World) (a:Option Addr) (len cap:Nat) (zs:List Int):Prop:=
  (a=none∧len=0∧cap=0∧zs=[])∨
  ∃ x,a=some x∧len≤cap∧cap≤maxLen∧zs.length=cap∧(∀ i,i<zs.length→w.cell? (x.add i)=some (.int k (zs.getD i 0)))∧∀ n∈zs,(Lit.int k n).wf=true
def Bytes (w:World) (a:Option Addr) (n:Nat) (l:List Int):Prop:=
  l.length=n∧(0<n→∃ b off,a=some ⟨b,off,none⟩∧b<w.heap.size∧∀ i,i<n→w.cell? ⟨b,off+i,none⟩=some (.int .u8 (l.getD i 0)))∧∀ x∈l,0≤x∧x≤255
theorem Bytes.below {w w':World} {a:Option Addr} {n:Nat} {l:List Int} (h:Bytes w a n l) (hb:Below w.heap.size w w'):Bytes w' a n l:=
  ⟨h.1,fun hn=>by
    obtain ⟨b,off,e,hl,hc⟩:=h.2.1 hn
    exact ⟨b,off,e,Nat.lt_of_lt_of_le hl hb.size,fun i hi=>(hb.cell (by exact hl)).trans (hc i hi)⟩,h.2.2⟩
theorem Bytes.get {w:World} {a:Option Addr} {n:Nat} {l:List Int} (h:Bytes w a n l) (i:Nat):0≤l.getD i 0∧l.getD i 0≤255:=by
  by_cases hi:i<l.length
  · rw [List.getD_eq_getElem?_getD,List.getElem?_eq_getElem hi]
    exact h.2.2 _ (List.getElem_mem hi)
  · rw [List.getD_eq_getElem?_getD,List.getElem?_eq_none (by omega)]
    simp
theorem z0L (b off i:Nat):(⟨b,off,none⟩:Addr).add i=⟨b,off+i,none⟩:=by unfold Addr.add;split <;> simp_all
theorem IsRow.bytes {w:World} {a:Option Addr} {n c:Nat} {zs:List Int} (h:IsRow .u8 w a n c zs):Bytes w a n (zs.take n):=by
  rcases h with ⟨rfl,rfl,rfl,rfl⟩ | ⟨x,rfl,hl,_,hz,hcell,hwf⟩
  · exact ⟨rfl,fun h=>by omega,fun x hx=>by simp at hx⟩
  · refine ⟨by simp [hz,hl],fun hn=>?_,fun y hy=>?_⟩
    · obtain ⟨b,off,spot⟩:=x
      have hc:=hcell 0 (by omega)
      have hspot:spot=none:=by simpa [Addr.add] using World.cell?_spot hc
      subst hspot
      refine ⟨b,off,rfl,block_lt_of_cell (by simpa [Addr.add] using hc),fun i hi=>?_⟩
      have:=hcell i (by omega)
      rw [z0L] at this
      rw [this]
      congr 2
      simp [List.getD_eq_getElem?_getD,hi]
    · have:=bounds_u8 (hwf y (List.mem_of_mem_take hy))
      exact this
end Go.Proofs.YtnmalbngdhjhjaaGreatDoor
