/- Texts of SpanVerifies, one behind the other: HashRefBits, HashRefWords, HashRefCut. -/
import Derived.Deep.LoopGhost
import Derived.Deep.AppendLies
import Derived.Deep.RegionHeld3
import Derived.Test.YthdpkaiieomdoaaGreatDoorSpanVerifiesP7
namespace Go.Proofs.YthdpkaiieomdoaaGreatDoor.HX
open Go.RowKit
theorem z0c {k:Nat} (h:k<2 ^ 64):IntKind.u64.wrap (k:Int)=(k:Int):=by rw [z09];omega
theorem z1y (n:Nat) (hn:n<64) (w:World):Calls Tryz.prog 165 #[.int .i64 (n:Int)] w fun e w'=>e=.returned (.int .u64 ((2 ^ n:Nat):Int))∧w=w':=by
  have HN:Aside (n<64):=hn
  clear hn
  go_enter Tryz.func165,Tryz.ntmps165
  go_wp2
  go_loopg [3,4] n (fun g s3 s4 wx=>∃ (i:Nat) (p:Int),i+g=n∧Aside (p=((2 ^ i:Nat):Int))∧s3=.int .u64 p∧s4=.int .i64 i∧wx=w)
  case atStart=>exact ⟨0,1,by omega,rfl,rfl,rfl,rfl⟩
  case round=>
    obtain ⟨i,p,hig,A,rfl,rfl,rfl⟩:=hrel
    cases gk with
    | zero=>
      obtain rfl:i=n:=by omega
      go_wp2
      go_ret
      exact ⟨by rw [← A.out];rfl,rfl⟩
    | succ g=>
      have hlt:(i:Int)<(n:Int):=by omega
      have hlt2:(i:Int)<64:=by have:=HN.out;omega
      obtain ⟨p',hp'⟩:∃ p',IntKind.u64.wrap (2*p)=p':=⟨_,rfl⟩
      have B:Aside (IntKind.u64.wrap (2*p)=p'):=hp'
      go_wp2
      go_roundg g
      case measure=>omega
      case rel=>
        refine ⟨i+1,p',by omega,?_,rfl,by go_num,rfl⟩
        show p'=_
        have h1:(2 ^ i:Nat)≤2 ^ 62:=Nat.pow_le_pow_right (by decide) (by have:=HN.out;omega)
        rw [← B.out,A.out,z09,Nat.pow_succ]
        omega
theorem zdb (x n:Int) (P:Int→Int) (q r t v:Int) (w:World) (h1:0≤n∧n<64) (h2:0≤32 - n∧32 - n<64) (hw:wrap64 (32 - n)=32 - n) (hp:¬ P n=0) (hq:IntKind.u64.wrap (x.tdiv (P n))=q) (hr:x.tmod (P n)=r) (ht:IntKind.u64.wrap (r*P (32 - n))=t) (hv:IntKind.u64.wrap (q+t)=v)
    (c:∀ k:Int,0≤k∧k<64→∀ w,Calls Tryz.prog 165 #[.int .i64 k] w fun e w'=>e=.returned (.int .u64 (P k))∧w=w'):
    Calls Tryz.prog 131 #[.int .u64 x,.int .i64 n] w fun e w'=>e=.returned (.int .u64 v)∧∃ m,w'=w.drewN m:=by
  go_enter Tryz.func131,Tryz.ntmps131
  go_wp2
  go_quiet ((go_at_call 165;exact z0A (c _ (by assumption) _)))
  go_wp2
  go_ret
  exact ⟨rfl,_,rfl⟩
theorem z4G (X n:Nat) (hX:X<2 ^ 32) (h1:1≤n) (h2:n<32) (w:World):Calls Tryz.prog 131 #[.int .u64 (X:Int),.int .i64 (n:Int)] w fun e w'=>e=.returned (.int .u64 ((ROTR n X:Nat):Int))∧∃ m,w'=w.drewN m:=by
  have hp:=Nat.two_pow_pos n
  have hR:=z0p (n:=n) (by omega) hX
  have hq:X / 2 ^ n<2 ^ 32:=Nat.lt_of_le_of_lt (Nat.div_le_self _ _) hX
  have hm:X % 2 ^ n*2 ^ (32 - n)<2 ^ 32:=Nat.lt_of_le_of_lt (Nat.le_add_left _ _) hR
  refine zdb X n (fun k=>((2 ^ k.toNat:Nat):Int)) ((X / 2 ^ n:Nat):Int) ((X % 2 ^ n:Nat):Int) ((X % 2 ^ n*2 ^ (32 - n):Nat):Int) _ w (by omega) (by omega) (by unfold wrap64;omega) ?_ ?_ ?_ ?_ ?_ ?_
  · simp only [Int.toNat_natCast]
    omega
  · simp only [Int.toNat_natCast]
    rw [Int.tdiv_eq_ediv_of_nonneg (by omega),← Int.natCast_ediv]
    exact z0c (by omega)
  · simp only [Int.toNat_natCast]
    rw [Int.tmod_eq_emod_of_nonneg (by omega),← Int.natCast_emod]
  · rw [show ((32:Int) - (n:Int)).toNat=32 - n by omega,← Int.natCast_mul]
    exact z0c (by omega)
  · rw [← Int.natCast_add]
    exact z0c (by unfold ROTR at hR;omega)
  · intro k hk w
    obtain ⟨K,rfl⟩:∃ K:Nat,k=(K:Int):=⟨k.toNat,by omega⟩
    exact z1y K (by omega) w
theorem zdc (x n p q:Int) (w:World) (hp:¬ p=0) (hq:IntKind.u64.wrap (x.tdiv p)=q)
    (c:∀ w,Calls Tryz.prog 165 #[.int .i64 n] w fun e w'=>e=.returned (.int .u64 p)∧w=w'):
    Calls Tryz.prog 132 #[.int .u64 x,.int .i64 n] w fun e w'=>e=.returned (.int .u64 q)∧w=w':=by
  go_enter Tryz.func132,Tryz.ntmps132
  go_wp2_with fail
  refine (c _).mono ?_
  rintro e w' ⟨rfl,rfl⟩
  clear c
  go_wp2
  go_ret
  exact ⟨rfl,rfl⟩
theorem z9C (X n:Nat) (hX:X<2 ^ 32) (h2:n<32) (w:World):Calls Tryz.prog 132 #[.int .u64 (X:Int),.int .i64 (n:Int)] w fun e w'=>e=.returned (.int .u64 ((X / 2 ^ n:Nat):Int))∧w=w':=by
  have hp:=Nat.two_pow_pos n
  have hq:X / 2 ^ n<2 ^ 32:=Nat.lt_of_le_of_lt (Nat.div_le_self _ _) hX
  refine zdc X n ((2 ^ n:Nat):Int) _ w (by omega) ?_ (fun w=>z1y n (by omega) w)
  rw [Int.tdiv_eq_ediv_of_nonneg (by omega),← Int.natCast_ediv]
  exact z0c (by omega)
theorem z1o (V i:Nat):V / 2 ^ i % 2=(V.testBit i).toNat:=(Nat.toNat_testBit V i).symm
theorem z0O (X i:Nat):X / 2 ^ i / 2=X / 2 ^ (i+1):=by rw [Nat.div_div_eq_div_mul,← Nat.pow_succ]
theorem z39 {V i x:Nat} (hx:x=V / 2 ^ i % 2):V % 2 ^ i+2 ^ i*x=V % 2 ^ (i+1):=by rw [hx,Nat.mod_pow_succ]
theorem zdd (X Y Z i:Nat):(X / 2 ^ i % 2+Y / 2 ^ i % 2+Z / 2 ^ i) % 2=(X ^^^ Y ^^^ Z) / 2 ^ i % 2:=by
  have e:(X / 2 ^ i % 2+Y / 2 ^ i % 2+Z / 2 ^ i) % 2=(X / 2 ^ i % 2+Y / 2 ^ i % 2+Z / 2 ^ i % 2) % 2:=by omega
  rw [e,z1o,z1o,z1o,z1o,Nat.testBit_xor,Nat.testBit_xor]
  cases X.testBit i <;> cases Y.testBit i <;> cases Z.testBit i <;> rfl
theorem zeo (X Y Z i:Nat):(X / 2 ^ i % 2+Y / 2 ^ i % 2+Z / 2 ^ i % 2) / 2=MAJ X Y Z / 2 ^ i % 2:=by
  unfold MAJ
  rw [z1o,z1o,z1o,z1o,Nat.testBit_xor,Nat.testBit_xor,Nat.testBit_and,Nat.testBit_and,Nat.testBit_and]
  cases X.testBit i <;> cases Y.testBit i <;> cases Z.testBit i <;> rfl
theorem z9D (X Y Z i:Nat) (hX:X<2 ^ 32) (hi:i<32):(if X / 2 ^ i % 2=1 then Y / 2 ^ i % 2 else Z / 2 ^ i % 2)=CHO X Y Z / 2 ^ i % 2:=by
  unfold CHO
  have e:4294967295 - X=2 ^ 32 - (X+1):=by omega
  rw [z1o,z1o,z1o,z1o,Nat.testBit_xor,Nat.testBit_and,Nat.testBit_and,e,Nat.testBit_two_pow_sub_succ hX]
  cases X.testBit i <;> cases Y.testBit i <;> cases Z.testBit i <;> simp [hi]
theorem z3I {i:Nat} (h:i<32):2 ^ i≤2147483648:=by
  have:(2:Nat) ^ i≤2 ^ 31:=Nat.pow_le_pow_right (by decide) (by omega)
  omega
theorem z5O (X Y Z:Nat) (hX:X<2 ^ 32) (hY:Y<2 ^ 32) (hZ:Z<2 ^ 32) (w:World):Calls Tryz.prog 130 #[.int .u64 (X:Int),.int .u64 (Y:Int),.int .u64 (Z:Int)] w fun e w'=>e=.returned (.int .u64 ((X ^^^ Y ^^^ Z:Nat):Int))∧w=w':=by
  have H:Aside (X<2 ^ 32∧Y<2 ^ 32∧Z<2 ^ 32):=⟨hX,hY,hZ⟩
  clear hX hY hZ
  go_enter Tryz.func130,Tryz.ntmps130
  go_wp2
  go_loopg [0,1,2,7,8,9] 32 (fun g s0 s1 s2 s7 s8 s9 wx=>∃ (i x y z o p:Nat),i+g=32∧Aside (x=X / 2 ^ i∧y=Y / 2 ^ i∧z=Z / 2 ^ i∧o=(X ^^^ Y ^^^ Z) % 2 ^ i∧p=2 ^ i)∧s0=.int .u64 (x:Int)∧s1=.int .u64 (y:Int)∧s2=.int .u64 (z:Int)∧s7=.int .u64 (o:Int)∧s8=.int .u64 (p:Int)∧s9=.int .i64 i∧wx=w)
  case atStart=>exact ⟨0,X,Y,Z,0,1,by omega,⟨by simp,by simp,by simp,by simp [Nat.mod_one],rfl⟩,rfl,rfl,rfl,rfl,rfl,rfl,rfl⟩
  case round=>
    obtain ⟨i,x,y,z,o,p,hig,A,rfl,rfl,rfl,rfl,rfl,rfl,rfl⟩:=hrel
    cases gk with
    | zero=>
      obtain rfl:i=32:=by omega
      go_wp2
      go_ret
      have e:o=X ^^^ Y ^^^ Z:=by rw [A.out.2.2.2.1];exact Nat.mod_eq_of_lt (Nat.xor_lt_two_pow (Nat.xor_lt_two_pow H.out.1 H.out.2.1) H.out.2.2)
      exact ⟨by rw [← e];rfl,rfl⟩
    | succ g=>
      have hlt:(i:Int)<32:=by omega
      go_wp2
      go_roundg g
      case measure=>omega
      case rel=>
        obtain ⟨a1,a2,a3,a4,a5⟩:=A.out
        have hp:=z3I (i:=i) (by omega)
        have ho:o<2 ^ i:=by rw [a4];exact Nat.mod_lt _ (Nat.two_pow_pos i)
        have hx:x<2 ^ 32:=by rw [a1];exact Nat.lt_of_le_of_lt (Nat.div_le_self _ _) H.out.1
        have hy:y<2 ^ 32:=by rw [a2];exact Nat.lt_of_le_of_lt (Nat.div_le_self _ _) H.out.2.1
        have hz:z<2 ^ 32:=by rw [a3];exact Nat.lt_of_le_of_lt (Nat.div_le_self _ _) H.out.2.2
        have hpb:p*((x % 2+y % 2+z) % 2)≤p*1:=Nat.mul_le_mul_left p (by omega)
        refine ⟨i+1,x / 2,y / 2,z / 2,o+p*((x % 2+y % 2+z) % 2),2*p,by omega,⟨by rw [a1,z0O],by rw [a2,z0O],by rw [a3,z0O],?_,by rw [a5,Nat.pow_succ];omega⟩,?_,?_,?_,?_,?_,by go_num,rfl⟩
        · rw [a4,a5]
          exact z39 (by rw [a1,a2,a3];exact zdd X Y Z i)
        · exact congrArg (Value.int .u64) (z0c (k:=x / 2) (by omega))
        · exact congrArg (Value.int .u64) (z0c (k:=y / 2) (by omega))
        · exact congrArg (Value.int .u64) (z0c (k:=z / 2) (by omega))
        · have e1:IntKind.u64.wrap ((p:Int)*((((x:Int) % 2+(y:Int) % 2+(z:Int)) % 2)))=((p*((x % 2+y % 2+z) % 2):Nat):Int):=z0c (Nat.lt_of_le_of_lt hpb (by omega))
          rw [e1]
          exact congrArg (Value.int .u64) (z0c (k:=o+p*((x % 2+y % 2+z) % 2)) (by omega))
        · exact congrArg (Value.int .u64) (z0c (k:=2*p) (by omega))
theorem zff (X Y Z:Nat) (hX:X<2 ^ 32) (hY:Y<2 ^ 32) (hZ:Z<2 ^ 32) (w:World):Calls Tryz.prog 134 #[.int .u64 (X:Int),.int .u64 (Y:Int),.int .u64 (Z:Int)] w fun e w'=>e=.returned (.int .u64 ((MAJ X Y Z:Nat):Int))∧w=w':=by
  have H:Aside (X<2 ^ 32∧Y<2 ^ 32∧Z<2 ^ 32):=⟨hX,hY,hZ⟩
  clear hX hY hZ
  go_enter Tryz.func134,Tryz.ntmps134
  go_wp2
  go_loopg [0,1,2,7,8,9] 32 (fun g s0 s1 s2 s7 s8 s9 wx=>∃ (i x y z o p:Nat),i+g=32∧Aside (x=X / 2 ^ i∧y=Y / 2 ^ i∧z=Z / 2 ^ i∧o=(MAJ X Y Z) % 2 ^ i∧p=2 ^ i)∧s0=.int .u64 (x:Int)∧s1=.int .u64 (y:Int)∧s2=.int .u64 (z:Int)∧s7=.int .u64 (o:Int)∧s8=.int .u64 (p:Int)∧s9=.int .i64 i∧wx=w)
  case atStart=>exact ⟨0,X,Y,Z,0,1,by omega,⟨by simp,by simp,by simp,by simp [Nat.mod_one],rfl⟩,rfl,rfl,rfl,rfl,rfl,rfl,rfl⟩
  case round=>
    obtain ⟨i,x,y,z,o,p,hig,A,rfl,rfl,rfl,rfl,rfl,rfl,rfl⟩:=hrel
    cases gk with
    | zero=>
      obtain rfl:i=32:=by omega
      go_wp2
      go_ret
      have e:o=MAJ X Y Z:=by rw [A.out.2.2.2.1];exact Nat.mod_eq_of_lt (zbu H.out.1 H.out.2.1)
      exact ⟨by rw [← e];rfl,rfl⟩
    | succ g=>
      have hlt:(i:Int)<32:=by omega
      go_wp2
      go_roundg g
      case measure=>omega
      case rel=>
        obtain ⟨a1,a2,a3,a4,a5⟩:=A.out
        have hp:=z3I (i:=i) (by omega)
        have ho:o<2 ^ i:=by rw [a4];exact Nat.mod_lt _ (Nat.two_pow_pos i)
        have hx:x<2 ^ 32:=by rw [a1];exact Nat.lt_of_le_of_lt (Nat.div_le_self _ _) H.out.1
        have hy:y<2 ^ 32:=by rw [a2];exact Nat.lt_of_le_of_lt (Nat.div_le_self _ _) H.out.2.1
        have hz:z<2 ^ 32:=by rw [a3];exact Nat.lt_of_le_of_lt (Nat.div_le_self _ _) H.out.2.2
        have hpb:p*((x % 2+y % 2+z % 2) / 2)≤p*1:=Nat.mul_le_mul_left p (by omega)
        refine ⟨i+1,x / 2,y / 2,z / 2,o+p*((x % 2+y % 2+z % 2) / 2),2*p,by omega,⟨by rw [a1,z0O],by rw [a2,z0O],by rw [a3,z0O],?_,by rw [a5,Nat.pow_succ];omega⟩,?_,?_,?_,?_,?_,by go_num,rfl⟩
        · rw [a4,a5]
          exact z39 (by rw [a1,a2,a3];exact zeo X Y Z i)
        · exact congrArg (Value.int .u64) (z0c (k:=x / 2) (by omega))
        · exact congrArg (Value.int .u64) (z0c (k:=y / 2) (by omega))
        · exact congrArg (Value.int .u64) (z0c (k:=z / 2) (by omega))
        · have e1:IntKind.u64.wrap ((p:Int)*((((x:Int) % 2+(y:Int) % 2+(z:Int) % 2) / 2)))=((p*((x % 2+y % 2+z % 2) / 2):Nat):Int):=z0c (Nat.lt_of_le_of_lt hpb (by omega))
          rw [e1]
          exact congrArg (Value.int .u64) (z0c (k:=o+p*((x % 2+y % 2+z % 2) / 2)) (by omega))
        · exact congrArg (Value.int .u64) (z0c (k:=2*p) (by omega))
theorem zfE (X Y Z:Nat) (hX:X<2 ^ 32) (hY:Y<2 ^ 32) (hZ:Z<2 ^ 32) (w:World):Calls Tryz.prog 133 #[.int .u64 (X:Int),.int .u64 (Y:Int),.int .u64 (Z:Int)] w fun e w'=>e=.returned (.int .u64 ((CHO X Y Z:Nat):Int))∧w=w':=by
  have H:Aside (X<2 ^ 32∧Y<2 ^ 32∧Z<2 ^ 32):=⟨hX,hY,hZ⟩
  clear hX hY hZ
  go_enter Tryz.func133,Tryz.ntmps133
  go_wp2
  go_loopg [0,1,2,7,8,9] 32 (fun g s0 s1 s2 s7 s8 s9 wx=>∃ (i x y z o p:Nat),i+g=32∧Aside (x=X / 2 ^ i∧y=Y / 2 ^ i∧z=Z / 2 ^ i∧o=(CHO X Y Z) % 2 ^ i∧p=2 ^ i)∧s0=.int .u64 (x:Int)∧s1=.int .u64 (y:Int)∧s2=.int .u64 (z:Int)∧s7=.int .u64 (o:Int)∧s8=.int .u64 (p:Int)∧s9=.int .i64 i∧wx=w)
  case atStart=>exact ⟨0,X,Y,Z,0,1,by omega,⟨by simp,by simp,by simp,by simp [Nat.mod_one],rfl⟩,rfl,rfl,rfl,rfl,rfl,rfl,rfl⟩
  case round=>
    obtain ⟨i,x,y,z,o,p,hig,A,rfl,rfl,rfl,rfl,rfl,rfl,rfl⟩:=hrel
    cases gk with
    | zero=>
      obtain rfl:i=32:=by omega
      go_wp2
      go_ret
      have e:o=CHO X Y Z:=by rw [A.out.2.2.2.1];exact Nat.mod_eq_of_lt (zbt H.out.1 H.out.2.2)
      exact ⟨by rw [← e];rfl,rfl⟩
    | succ g=>
      have hlt:(i:Int)<32:=by omega
      cases hb:((x:Int) % 2 == 1) with
      | true=>
        have hb1:x % 2=1:=by have:=eq_of_beq hb;omega
        have HB:Aside (x % 2=1):=hb1
        clear hb1
        go_wp2
        go_roundg g
        case measure=>omega
        case rel=>
          obtain ⟨a1,a2,a3,a4,a5⟩:=A.out
          have hp:=z3I (i:=i) (by omega)
          have ho:o<2 ^ i:=by rw [a4];exact Nat.mod_lt _ (Nat.two_pow_pos i)
          have hx:x<2 ^ 32:=by rw [a1];exact Nat.lt_of_le_of_lt (Nat.div_le_self _ _) H.out.1
          have hy:y<2 ^ 32:=by rw [a2];exact Nat.lt_of_le_of_lt (Nat.div_le_self _ _) H.out.2.1
          have hz:z<2 ^ 32:=by rw [a3];exact Nat.lt_of_le_of_lt (Nat.div_le_self _ _) H.out.2.2
          have hpb:p*(y % 2)≤p*1:=Nat.mul_le_mul_left p (by omega)
          refine ⟨i+1,x / 2,y / 2,z / 2,o+p*(y % 2),2*p,by omega,⟨by rw [a1,z0O],by rw [a2,z0O],by rw [a3,z0O],?_,by rw [a5,Nat.pow_succ];omega⟩,?_,?_,?_,?_,?_,by go_num,rfl⟩
          · rw [a4,a5]
            exact z39 (by have:=z9D X Y Z i H.out.1 (by omega);rw [← this,← a1,if_pos HB.out,← a2])
          · exact congrArg (Value.int .u64) (z0c (k:=x / 2) (by omega))
          · exact congrArg (Value.int .u64) (z0c (k:=y / 2) (by omega))
          · exact congrArg (Value.int .u64) (z0c (k:=z / 2) (by omega))
          · have e1:IntKind.u64.wrap ((p:Int)*((y:Int) % 2))=((p*(y % 2):Nat):Int):=z0c (Nat.lt_of_le_of_lt hpb (by omega))
            rw [e1]
            exact congrArg (Value.int .u64) (z0c (k:=o+p*(y % 2)) (by omega))
          · exact congrArg (Value.int .u64) (z0c (k:=2*p) (by omega))
      | false=>
        have hb1:¬ x % 2=1:=by have:=beq_eq_false_iff_ne.1 hb;omega
        have HB:Aside (¬ x % 2=1):=hb1
        clear hb1
        go_wp2
        go_roundg g
        case measure=>omega
        case rel=>
          obtain ⟨a1,a2,a3,a4,a5⟩:=A.out
          have hp:=z3I (i:=i) (by omega)
          have ho:o<2 ^ i:=by rw [a4];exact Nat.mod_lt _ (Nat.two_pow_pos i)
          have hx:x<2 ^ 32:=by rw [a1];exact Nat.lt_of_le_of_lt (Nat.div_le_self _ _) H.out.1
          have hy:y<2 ^ 32:=by rw [a2];exact Nat.lt_of_le_of_lt (Nat.div_le_self _ _) H.out.2.1
          have hz:z<2 ^ 32:=by rw [a3];exact Nat.lt_of_le_of_lt (Nat.div_le_self _ _) H.out.2.2
          have hpb:p*(z % 2)≤p*1:=Nat.mul_le_mul_left p (by omega)
          refine ⟨i+1,x / 2,y / 2,z / 2,o+p*(z % 2),2*p,by omega,⟨by rw [a1,z0O],by rw [a2,z0O],by rw [a3,z0O],?_,by rw [a5,Nat.pow_succ];omega⟩,?_,?_,?_,?_,?_,by go_num,rfl⟩
          · rw [a4,a5]
            exact z39 (by have:=z9D X Y Z i H.out.1 (by omega);rw [← this,← a1,if_neg HB.out,← a3])
          · exact congrArg (Value.int .u64) (z0c (k:=x / 2) (by omega))
          · exact congrArg (Value.int .u64) (z0c (k:=y / 2) (by omega))
          · exact congrArg (Value.int .u64) (z0c (k:=z / 2) (by omega))
          · have e1:IntKind.u64.wrap ((p:Int)*((z:Int) % 2))=((p*(z % 2):Nat):Int):=z0c (Nat.lt_of_le_of_lt hpb (by omega))
            rw [e1]
            exact congrArg (Value.int .u64) (z0c (k:=o+p*(z % 2)) (by omega))
          · exact congrArg (Value.int .u64) (z0c (k:=2*p) (by omega))
end Go.Proofs.YthdpkaiieomdoaaGreatDoor.HX

namespace Go.Proofs.YthdpkaiieomdoaaGreatDoor.HX
open Go.RowKit
def z0w (l:List Nat):List Value:=l.map fun (x:Nat)=>Value.int .u64 (x:Int)
theorem z53 (l:List Nat) (x:Nat):z0w (l ++ [x])=z0w l ++ [.int .u64 (x:Int)]:=by simp [z0w]
theorem z19 (l:List Nat) (i:Nat) (h:i<l.length):(z0w l)[i]?=some (.int .u64 (l.getD i 0:Nat)):=by simp [z0w,h,List.getD_eq_getElem?_getD]
theorem z1w:∃ i,Tryz.prog.info? 24=some i∧i.zero=some (.int .u64 0)∧i.size=1∧i.bytes=8:=by
  have h:(Tryz.prog.info? 24).map (fun i=>(i.zero,i.size,i.bytes))=some (some (.int .u64 0),1,8):=by kernel_rfl
  obtain ⟨i,hi,h⟩:=Option.map_eq_some_iff.1 h
  simp only [Prod.mk.injEq] at h
  exact ⟨i,hi,h.1,h.2.1,h.2.2⟩
theorem z7R {ops:Array Oper} {o:Oper} {a:Act} {K:Act→World→Prop} {Q:Exit→Act→World→Prop} {E:Prop} (w:World) (y:Int) (hgd:o.guard=none) (s x:Operand)
    (ho:o.op=.call {callee:=.builtin .append,args:=#[s,x],argTypes:=#[81,81]})
    (base:Nat) (v:Value) (n:Nat) (xs:List Value) (hs:a.eval s=v) (hown:w.ownsRow base 24 1 v n xs)
    (hx:a.eval x=.slice (some ⟨w.heap.size,0,none⟩) 1 1) (hb:n≤1000) (hbase:base≤w.heap.size)
    (h:∀ g cap w',w'.ownsRow base 24 1 (.slice (some ⟨g,0,none⟩) (n+1) cap) (n+1) (xs ++ [.int .u64 y])→(w.alloc (.cells #[.int .u64 y] 24)).grownBy w' v.ownBlock→g<w'.heap.size→K (a.put o.dst (.slice (some ⟨g,0,none⟩) (n+1) cap)) w'):
    if Region.wanted o (yielded ops a.tmps)=true then Oper.wp Tryz.prog o a (w.alloc (.cells #[.int .u64 y] 24)) K Q else E:=by
  obtain ⟨i,hi,hz,hs1,hby⟩:=z1w
  refine step_append_lies _ hgd s x 81 ho base 24 i (.int .u64 0) 1 8 Tryz.underlying81 hi hz hs1 hby rfl (by decide) v n xs hs (hown.alloc _) ⟨w.heap.size,0,none⟩ 1 1 [.int .u64 y] hx rfl ?_ (fun u hu=>by simp at hu;subst hu;rfl) (by decide) (by simp only [maxLen];omega) (by omega) (by simp;omega) (w.heap.size+1) (by simp) ?_
  · intro j u hj
    cases j with
    | zero=>
      simp only [List.getElem?_cons_zero,Option.some.injEq] at hj
      subst hj
      rw [z0H,World.cell?_alloc_at _ _ _ _ rfl]
      rfl
    | succ j=>simp at hj
  · intro g cap w' h1 h2 _ h4
    exact h g cap w' h1 h2 h4
theorem z2A {W w8:World} {o:Obj} {row:Option Nat} {b i:Nat} (hg:(W.alloc o).grownBy w8 row) (hb:b<W.heap.size) (hr:some b≠row):w8.cell? ⟨b,i,none⟩=W.cell? ⟨b,i,none⟩:=
  (World.cell?_of_block (w:=W.alloc o) (a:=⟨b,i,none⟩) (hg.block b (by simp;omega) hr)).trans (World.cell?_of_block (w:=W) (a:=⟨b,i,none⟩) (Below.heap_alloc W o b hb))
def WL (s:Nat→Nat) (k:Nat):List Nat:=(List.range k).map fun t=>z05 s (4*t)
theorem z4i (s:Nat→Nat) (k:Nat):(WL s k).length=k:=by simp [WL]
theorem zep (s:Nat→Nat) (k:Nat):WL s (k+1)=WL s k ++ [z05 s (4*k)]:=by simp [WL,List.range_succ]
theorem z7S (s:Nat→Nat) (k i:Nat) (h:i<k):(WL s k).getD i 0=z05 s (4*i):=by simp [WL,h,List.getD_eq_getElem?_getD]
set_option maxHeartbeats 1000000 in
theorem z54 (b n c q:Nat) (s:Nat→Nat) (h8:∀ i,s i<256) (w:World) (hn:n=4*q) (hpos:0<q) (hq:q≤16) (hb:b<w.heap.size) (hc:∀ i,i<n→w.cell? ⟨b,i,none⟩=some (.int .u8 (s i:Nat))):
    Calls Tryz.prog 129 #[.slice (some ⟨b,0,none⟩) n c] w fun e w'=>∃ g cap,e=.returned (.slice (some ⟨g,0,none⟩) q cap)∧w'.ownsRow w.heap.size 24 1 (.slice (some ⟨g,0,none⟩) q cap) q (z0w (WL s q))∧g<w'.heap.size∧Below w.heap.size w w':=by
  have H:Aside ((∀ i,s i<256)∧n=4*q∧q≤16∧b<w.heap.size∧∀ i,i<n→w.cell? ⟨b,i,none⟩=some (.int .u8 (s i:Nat))):=⟨h8,hn,hq,hb,hc⟩
  clear h8 hn hq hb hc
  go_enter Tryz.func129,Tryz.ntmps129
  go_wp2
  go_loopg [3,4] q (fun r s3 s4 wx=>∃ (j o:Nat),j+r=q∧s4=.int .i64 o∧Aside (o=4*j∧wx.ownsRow w.heap.size 24 1 s3 j (z0w (WL s j))∧Below w.heap.size w wx))
  case atStart=>exact ⟨0,0,by omega,rfl,rfl,World.ownsRow_nil _ _ _ _,Below.refl _ _⟩
  case round=>
    obtain ⟨j,o,hjr,rfl,A⟩:=hrel
    cases gk with
    | zero=>
      obtain rfl:j=q:=by omega
      obtain ⟨ho,hown,hbel⟩:=A.out
      obtain ⟨k1,k2,k3,k4,k5⟩:=H.out
      have hlt:¬ (o:Int)+3<(n:Int):=by omega
      have ho64:(o:Int)≤64:=by omega
      obtain ⟨g,cap,hv,_,hg⟩:=hown.form hpos
      subst hv
      have R:Aside (wr.ownsRow w.heap.size 24 1 (.slice (some ⟨g,0,none⟩) j cap) j (z0w (WL s j))∧g<wr.heap.size∧Below w.heap.size w wr):=⟨hown,hg,hbel⟩
      clear hown hg hbel A ho k1 k2 k3 k4 k5 H
      go_wp2
      go_ret
      exact ⟨g,cap,rfl,R.out.1,R.out.2.1,R.out.2.2⟩
    | succ r=>
      obtain ⟨ho,hown,hbel⟩:=A.out
      obtain ⟨k1,k2,k3,k4,k5⟩:=H.out
      have c0:wr.cell? ⟨b,o,none⟩=some (.int .u8 (s o:Nat)):=(hbel.cell (by exact k4)).trans (k5 o (by omega))
      have c1:wr.cell? ⟨b,o+1,none⟩=some (.int .u8 (s (o+1):Nat)):=(hbel.cell (by exact k4)).trans (k5 (o+1) (by omega))
      have c2:wr.cell? ⟨b,o+2,none⟩=some (.int .u8 (s (o+2):Nat)):=(hbel.cell (by exact k4)).trans (k5 (o+2) (by omega))
      have c3:wr.cell? ⟨b,o+3,none⟩=some (.int .u8 (s (o+3):Nat)):=(hbel.cell (by exact k4)).trans (k5 (o+3) (by omega))
      have W:Aside (s o*16777216+s (o+1)*65536+s (o+2)*256+s (o+3)=z05 s (4*j)∧s o<256∧s (o+1)<256∧s (o+2)<256∧s (o+3)<256):=⟨by rw [← ho];rfl,k1 _,k1 _,k1 _,k1 _⟩
      generalize s o=v0 at *
      generalize s (o+1)=v1 at *
      generalize s (o+2)=v2 at *
      generalize s (o+3)=v3 at *
      obtain ⟨o1,ho1⟩:∃ o1,o1=o+1:=⟨_,rfl⟩
      obtain ⟨o2,ho2⟩:∃ o2,o2=o+2:=⟨_,rfl⟩
      obtain ⟨o3,ho3⟩:∃ o3,o3=o+3:=⟨_,rfl⟩
      rw [← ho1] at c1
      rw [← ho2] at c2
      rw [← ho3] at c3
      have e1:(o:Int)+1=(o1:Int):=by omega
      have e2:(o:Int)+2=(o2:Int):=by omega
      have e3:(o:Int)+3=(o3:Int):=by omega
      have f1:IntKind.i64.wrap (o1:Int)=(o1:Int):=by rw [IntKind.wrap_i64];omega
      have f2:IntKind.i64.wrap (o2:Int)=(o2:Int):=by rw [IntKind.wrap_i64];omega
      have f3:IntKind.i64.wrap (o3:Int)=(o3:Int):=by rw [IntKind.wrap_i64];omega
      have g0:(o:Int)<(n:Int):=by omega
      have g1:(o1:Int)<(n:Int):=by omega
      have g2:(o2:Int)<(n:Int):=by omega
      have g3:(o3:Int)<(n:Int):=by omega
      have m0:=World.new_ne wr ⟨b,o,none⟩ c0
      have m1:=World.new_ne wr ⟨b,o1,none⟩ c1
      have m2:=World.new_ne wr ⟨b,o2,none⟩ c2
      have m3:=World.new_ne wr ⟨b,o3,none⟩ c3
      have hbl:b<wr.heap.size:=Nat.lt_of_lt_of_le k4 hbel.size
      have hj:j≤1000:=by omega
      have hbw:w.heap.size≤wr.heap.size:=hbel.size
      have hblw:b<w.heap.size:=k4
      have R:Aside (o=4*j∧wr.ownsRow w.heap.size 24 1 u3 j (z0w (WL s j))∧Below w.heap.size w wr∧j+(r+1)=q∧n=4*q∧q≤16):=⟨ho,hown,hbel,hjr,k2,k3⟩
      clear ho hown hbel hjr k1 k2 k3 k4 k5 A ho1 ho2 ho3 H
      have hrow:some b≠u3.ownBlock:=fun e=>by have:=(R.out.2.1.lt b e.symm).1;omega
      go_wp2_with fail
      go_region_held3 (fun W:World=>W.cell? ⟨b,o,none⟩=some (.int .u8 (v0:Int))∧W.cell? ⟨b,o1,none⟩=some (.int .u8 (v1:Int))∧W.cell? ⟨b,o2,none⟩=some (.int .u8 (v2:Int))∧W.cell? ⟨b,o3,none⟩=some (.int .u8 (v3:Int))) (first | (refine ⟨?_,?_,?_,?_⟩ <;> assumption) | go_keep) (first | (refine z7R wr.drew _ rfl (.tmp 12) (.tmp 42) rfl w.heap.size u3 j (z0w (WL s j)) rfl (by exact R.out.2.1) rfl hj (by exact hbw) ?_;intro g8 cap8 w8 hown8 hgrow8 hg8;have q0:=(z2A (i:=o) hgrow8 (by exact hbl) hrow).trans c0;have q1:=(z2A (i:=o1) hgrow8 (by exact hbl) hrow).trans c1;have q2:=(z2A (i:=o2) hgrow8 (by exact hbl) hrow).trans c2;have q3:=(z2A (i:=o3) hgrow8 (by exact hbl) hrow).trans c3))
      have hx:IntKind.u64.wrap (IntKind.u64.wrap (IntKind.u64.wrap (IntKind.u64.wrap (IntKind.u64.wrap (IntKind.u64.wrap (IntKind.u64.wrap (v0:Int)*256)+IntKind.u64.wrap (v1:Int))*256)+IntKind.u64.wrap (v2:Int))*256)+IntKind.u64.wrap (v3:Int))=((z05 s (4*j):Nat):Int):=by
        obtain ⟨w1,w2,w3,w4,w5⟩:=W.out
        rw [← w1]
        simp only [z09]
        omega
      rw [hx,← z53,← zep] at hown8
      have hb8:Below w.heap.size w w8:=(R.out.2.2.1.drew.alloc hbw _).grown hgrow8 (by simp;omega) (fun k e=>(R.out.2.1.lt k e).1)
      have T:Aside (w8.ownsRow w.heap.size 24 1 (.slice (some ⟨g8,0,none⟩) (j+1) cap8) (j+1) (z0w (WL s (j+1)))∧Below w.heap.size w w8):=⟨hown8,hb8⟩
      have ho64:(o:Int)<64:=by have:=R.out;omega
      clear hown8 hb8 hgrow8 hg8 hx q0 q1 q2 q3 c0 c1 c2 c3 m0 m1 m2 m3 e1 e2 e3 f1 f2 f3 g0 g1 g2 g3
      go_wp2
      go_roundg r
      case measure=>omega
      case rel=>
        obtain ⟨r1,r2,r3,r4,r5,r6⟩:=R.out
        exact ⟨j+1,o+4,by omega,by go_num,by omega,T.out.1,T.out.2⟩
end Go.Proofs.YthdpkaiieomdoaaGreatDoor.HX

namespace Go.Proofs.YthdpkaiieomdoaaGreatDoor.HX
open Go.RowKit
set_option maxRecDepth 100000 in
theorem zde (w:World):Calls Tryz.prog 128 #[] w fun e w'=>e=.returned (.slice (some ⟨w.heap.size,0,none⟩) 64 64)∧w.alloc (.cells (UARR .u64 64 KC) 24)=w':=by
  go_enter Tryz.func128,Tryz.ntmps128
  go_wp2
  go_ret
  exact ⟨rfl,rfl⟩
theorem zdf (d:Int) (w:World):Calls Tryz.prog 164 #[.int .i64 d] w fun e w'=>e=.returned (.int .i64 ((WID d:Nat):Int))∧w=w':=by
  by_cases h1:d<1
  · have e:((WID d:Nat):Int)=1:=by unfold WID;omega
    rw [e]
    clear e
    go_enter Tryz.func164,Tryz.ntmps164
    go_wp2
    go_ret
    exact ⟨rfl,rfl⟩
  · by_cases h2:32<d
    · have e:((WID d:Nat):Int)=32:=by unfold WID;omega
      rw [e]
      clear e
      go_enter Tryz.func164,Tryz.ntmps164
      go_wp2
      go_ret
      exact ⟨rfl,rfl⟩
    · have e:((WID d:Nat):Int)=d:=by unfold WID;omega
      rw [e]
      clear e
      go_enter Tryz.func164,Tryz.ntmps164
      go_wp2
      go_ret
      exact ⟨rfl,rfl⟩
theorem z6F (d:Int) (s:Nat→Nat) (w:World):Calls Tryz.prog 127 #[.int .i64 d,.agg (UARR .u8 32 s)] w fun e w'=>e=.returned (.agg (UARR .u8 32 (z0z d s)))∧Below w.heap.size w w':=by
  have hz:=z0T
  have hW:=zaf d
  have cw:=zdf d
  have HW:Aside (1≤WID d∧WID d≤32):=hW
  obtain ⟨V,hV⟩:∃ V,V=WID d:=⟨_,rfl⟩
  rw [← hV] at cw
  have HV:Aside (V=WID d∧V≤32):=⟨hV,by omega⟩
  clear hW hV
  go_enter Tryz.func127,Tryz.ntmps127
  go_wp2_with fail
  refine (cw _).mono ?_
  rintro e w' ⟨rfl,rfl⟩
  clear cw hz
  go_wp2
  go_loopg [5] (32 - V) (fun r s5 wx=>∃ i:Nat,i+r=32∧s5=.int .i64 i∧Aside (V≤i∧Below w.heap.size w wx∧Has wx w.heap.size (UARR .u8 32 fun j=>if V≤j∧j<i then 0 else s j) 23∧Has wx (w.heap.size+1) (UARR .u8 32 fun _=>0) 23))
  case atStart=>
    have e:(UARR .u8 32 fun j=>if V≤j∧j<V then 0 else s j)=UARR .u8 32 s:=z0g fun j _=>if_neg (by omega)
    refine ⟨V,by have:=HV.out;omega,rfl,Nat.le_refl _,((Below.refl _ _).alloc (Nat.le_refl _) _).alloc (by simp) _,?_,Has.at _ _ _ (by simp)⟩
    rw [e]
    exact (Has.new w _ _).alloc _
  case round=>
    obtain ⟨i,hir,rfl,A⟩:=hrel
    cases gk with
    | zero=>
      obtain rfl:i=32:=by omega
      obtain ⟨hVi,hb,h1,h2⟩:=A.out
      have e:(UARR .u8 32 fun j=>if V≤j∧j<32 then 0 else s j)=UARR .u8 32 (z0z d s):=z0g fun j hj=>by
        unfold z0z
        rw [← HV.out.1]
        by_cases e:j<V
        · rw [if_neg (by omega),if_pos e]
        · rw [if_pos (by omega),if_neg e]
      rw [e] at h1
      go_wp2_with (first
        | (refine wpList_load_row rfl 23 _ rfl _ rfl _ _ (0,0) _ h1 Tryz.underlying23 rfl (z02 _) ?_)
        | (refine wpList_store_row rfl 23 _ _ rfl _ _ rfl rfl _ _ h2 (z02 _) (by rw [z01,z01]) (z0e _ _ _) ?_))
      refine bodyPost_ret (v:=.agg (UARR .u8 32 (z0z d s))) ?_ rfl ⟨rfl,z04 hb (by omega) _⟩
      exact results_cell_row rfl _ _ (w.heap.size+1) 23 _ (0,0) _ rfl (h2.row _) Tryz.underlying23 rfl (z02 _)
    | succ r=>
      have hlt:(i:Int)<32:=by omega
      obtain ⟨hVi,hb,h1,h2⟩:=A.out
      have hc:wr.cell? ⟨w.heap.size,i,none⟩=some (.int .u8 ((if V≤i∧i<i then 0 else s i:Nat):Int)):=by rw [h1.cell,z07 _ _ _ _ (by omega)]
      have hf:wr.frozen? ⟨w.heap.size,i,none⟩=false:=h1.frozen i
      generalize ((if V≤i∧i<i then 0 else s i:Nat):Int)=x at hc
      have R:Aside (V≤i∧Below w.heap.size w wr∧Has wr w.heap.size (UARR .u8 32 fun j=>if V≤j∧j<i then 0 else s j) 23∧Has wr (w.heap.size+1) (UARR .u8 32 fun _=>0) 23):=⟨hVi,hb,h1,h2⟩
      clear hVi hb h1 h2 A
      go_wp2
      go_roundg r
      case measure=>omega
      case rel=>
        obtain ⟨hVi,hb,h1,h2⟩:=R.out
        refine ⟨i+1,by omega,by go_num,by omega,hb.setCell (Nat.le_refl _) _,?_,h2.other (by show w.heap.size+1≠w.heap.size;omega) _⟩
        have h3:=h1.set i (.int .u8 ((0:Nat):Int))
        rw [z1A] at h3
        have e:(UARR .u8 32 fun j=>if j=i then 0 else if V≤j∧j<i then 0 else s j)=UARR .u8 32 fun j=>if V≤j∧j<i+1 then 0 else s j:=z0g fun j _=>by
          by_cases e:j=i
          · rw [if_pos e,if_pos (by omega)]
          · rw [if_neg e]
            by_cases e2:V≤j∧j<i
            · rw [if_pos e2,if_pos (by omega)]
            · rw [if_neg e2,if_neg (by omega)]
        rw [e] at h3
        exact h3
end Go.Proofs.YthdpkaiieomdoaaGreatDoor.HX
