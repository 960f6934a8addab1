/- ClashAcross: part 26. -/
import Derived.Test.YtdggkbpabjgdfaaGreatDoorClashAcrossP24
import Derived.Test.YtdggkbpabjgdfaaGreatDoorClashAcrossP25
set_option maxHeartbeats 4000000
namespace Go.Proofs.YtdggkbpabjgdfaaGreatDoor
open Go.RowKit
theorem z9z (a:Option Addr) (c:Nat) (w:World):Calls Tryz.prog 25 #[.slice a 0 c] w fun e w'=>e=.returned (.tuple #[.int .u64 0,.int .i64 0,.int .i64 11])/\w=w':=by
 go_enter Tryz.func25,Tryz.ntmps25;go_wp2;refine wp_loop_rounds 1 ?_;rw [rounds_succ];go_wp2;go_ret3
 exact ⟨rfl,rfl⟩
def Tops (d:Nat->Nat) (j:Nat) (x:Int) (V:Nat):Prop:=∃ y:Nat,x=(y:Int)/\VAL d j+y*128 ^ j=V
theorem Tops.down {d:Nat->Nat} {j V:Nat} {x v:Int} (A:Tops d (j+1) x V) (hV:V<2 ^ 64) (hv:(v % 128).toNat=d j):Tops d j (IntKind.u64.wrap (IntKind.u64.wrap (128*x)+v % 128)) V:=by
 obtain ⟨y,rfl,hy⟩:=A
 have e:VAL d j+(128*y+d j)*128 ^ j=V:=by
  rw [<-hy,VAL,Nat.add_mul,Nat.pow_succ,Nat.mul_comm 128 y,Nat.mul_assoc,Nat.mul_comm 128 (128 ^ j)];omega
 have hl:128*y+d j<=V:=by
  have h1:(128*y+d j)*1<=(128*y+d j)*128 ^ j:=Nat.mul_le_mul_left _ (Nat.pow_pos (by decide));omega
 refine ⟨128*y+d j,?_,e⟩;rw [z08,z08,<-hv];omega
theorem zfs {l:List Int} {n:Nat} (hn:10<=n) (h:∀ i,i<10->128<=l.getD i 0):LG l n 10 0 0=(0,0,10):=by
 have:=z5F 10 0 h (fun i hi=>by omega) (n:=n);simpa [LG] using this
theorem zft {l:List Int} {n:Nat} (hn:n<10) (h:∀ i,i<n->128<=l.getD i 0):LG l n 10 0 0=(0,0,11):=by
 have:=z5F n (9 - n+1) h (fun i hi=>by omega) (n:=n);rw [show 9 - n+1+n=10 by omega,zaL rfl] at this;exact this
theorem zim {l:List Int} {n m:Nat} (hm:m<=9) (hmn:m<n) (h:∀ i,i<m->128<=l.getD i 0) (h1:¬ 128<=l.getD m 0):
  LG l n 10 0 0=if m=9/\1<l.getD m 0 then (0,0,10) else if l.getD m 0=0/\0<m then (0,0,12) else ((VAL (DIG l) m:Nat)+l.getD m 0*128 ^ m,(m:Int)+1,0):=by
 rw [show 10=9 - m+1+m by omega,z5F m (9 - m+1) h (fun i hi=>by omega),z7I (by omega) h1]
theorem zaT {l:List Int} {k:Nat} {v r1:Int} (hr:∀ i,0<=l.getD i 0/\l.getD i 0<=255) (hv:l.getD k 0=v) (hk:k<=9) (h1:v<128) (h9:k=9->v<=1) (he:r1=(VAL (DIG l) k:Nat)+v*128 ^ k):
  Tops (DIG l) (k+1) 0 (VAL (DIG l) (k+1))/\VAL (DIG l) (k+1)<2 ^ 64/\r1=((VAL (DIG l) (k+1):Nat):Int):=by
 have hd:((DIG l k:Nat):Int)=v:=by
  have:=hr k;unfold DIG;rw [hv] at this ⊢;omega
 have hvl:=z5E (zaN l) k;refine ⟨⟨0,rfl,by simp⟩,?_,?_⟩
 ·rw [VAL]
  by_cases h:k=9
  ·subst h
   have:=h9 rfl;have hd1:DIG l 9<=1:=by omega
   have h3:DIG l 9*128 ^ 9<=1*128 ^ 9:=Nat.mul_le_mul_right _ hd1;omega
  ·have h8:=Nat.pow_le_pow_right (n:=128) (by decide) (show k<=8 by omega)
   have h5:DIG l k*128 ^ k<=127*128 ^ 8:=Nat.mul_le_mul (by have:=zaN l k;omega) h8;omega
 ·rw [he,VAL,Int.natCast_add,Int.natCast_mul,Int.natCast_pow,hd]
  rfl
theorem zbJ (b off n c:Nat) (l:List Int) (r1 r2 r3:Int) (hR:Aside (LG l n 10 0 0=(r1,r2,r3))) (w:World) (hB:Bytes w (some ⟨b,off,none⟩) n l) (h0:0<n) (hmax:n<=140737488355328):
    Calls Tryz.prog 25 #[.slice (some ⟨b,off,none⟩) n c] w fun e w'=>e=.returned (.tuple #[.int .u64 r1,.int .i64 r2,.int .i64 r3])/\w=w':=by
  obtain ⟨b',off',e,_,hc0⟩:=hB.2.1 h0;simp only [Option.some.injEq,Addr.mk.injEq] at e;obtain ⟨rfl,rfl,_⟩:=e;have HC:Aside ((∀ i,i<n->w.cell? ⟨b,off+i,none⟩=some (.int .u8 (l.getD i 0)))/\∀ i,0<=l.getD i 0/\l.getD i 0<=255):=⟨hc0,hB.get⟩
  clear hB hc0;go_enter Tryz.func25,Tryz.ntmps25;go_wp2;go_loop [5] (fun s5=>∃ k:Nat,k<=n/\k<=10/\Aside (∀ i,i<k->128<=l.getD i 0)/\s5=.int .i64 k) (fun i=>10 - (intOf i).toNat)
  case atStart=>exact ⟨0,by omega,by omega,fun i hi=>by omega,rfl⟩
  case round=>
    obtain ⟨k,hkn,hk10,A,rfl⟩:=hrel;by_cases hlt:(k:Int)<(n:Int)
    · by_cases h10:(k:Int)<10
      · have hc := HC.out.1 k (by omega)
        have hcb:=HC.out.2 k;generalize hv:l.getD k 0=v at hc hcb;have Hv:Aside (l.getD k 0=v):=hv;clear hv;have hv0:=hcb.1;have hv1:=hcb.2;clear hcb;by_cases h128:128<=v
        · go_wp2
          go_round
          case rel=>
            refine ⟨k+1,by omega,by omega,fun i hi=>?_,by go_num⟩;by_cases e:i=k
            · rw [e,Hv.out];exact h128
            · exact A.out i (by omega)
          case measure=>first | (simp [intOf];done) | (simp [intOf];omega)
        · have hst := zim (l:=l) (n:=n) (m:=k) (by omega) (by omega) A.out (by rw [Hv.out];exact h128)
          rw [Hv.out,hR.out] at hst;have hk10':((k:Int) == 10)=false:=by simp;omega
          have hkn':((k:Int) == (n:Int))=false:=by simp;omega
          by_cases h9:k=9
          · subst h9
            by_cases hr:1<v
            · rw [if_pos ⟨rfl,hr⟩] at hst
              simp only [Prod.mk.injEq] at hst;obtain ⟨rfl,rfl,rfl⟩:=hst;clear A;go_wp2;go_ret3
              exact ⟨rfl,rfl⟩
            · rw [if_neg (fun h=>hr h.2)] at hst
              by_cases hz:v=0
              · subst hz
                rw [if_pos ⟨rfl,by decide⟩] at hst;simp only [Prod.mk.injEq] at hst;obtain ⟨rfl,rfl,rfl⟩:=hst;clear A;go_wp2;go_ret3
                exact ⟨rfl,rfl⟩
              · rw [if_neg (fun h=>hz h.1)] at hst
                simp only [Prod.mk.injEq] at hst;have hvb:(v == 0)=false:=by simp [hz]
                clear hz;have HV:Aside (Tops (DIG l) (9+1) 0 (VAL (DIG l) (9+1))/\VAL (DIG l) (9+1)<2 ^ 64/\r1=((VAL (DIG l) (9+1):Nat):Int)):=zaT (HC.out.2) Hv.out (by omega) (by omega) (by omega) hst.1;obtain ⟨_,rfl,rfl⟩:=hst;clear A;go_wp2;go_loop [6,7] (fun s6 s7=>∃ (j:Nat) (x:Int),j<=9+1/\Aside (Tops (DIG l) j x (VAL (DIG l) (9+1)))/\s6=.int .u64 x/\s7=.int .i64 ((j:Int) - 1)) (fun _ s=>(intOf s+1).toNat)
                case atStart=>exact ⟨9+1,0,Nat.le_refl _,HV.out.1,rfl,by first | rfl | go_num⟩
                case round=>
                  obtain ⟨j,x,hj,B,rfl,rfl⟩:=hrel;cases j with
                  | zero=>
                    obtain rfl:x=r1:=by
                      obtain ⟨y,rfl,hy⟩:=B.out;rw [HV.out.2.2,<-hy];simp [VAL]
                    clear B HV;go_wp2;go_ret3
                    exact ⟨rfl,rfl⟩
                  | succ i=>
                    have hi1:((i+1:Nat):Int) - 1=(i:Int):=by omega
                    rw [hi1];have hi0:(0:Int)<=(i:Int):=by omega
                    have hin:(i:Int)<(n:Int):=by omega
                    have hci:=HC.out.1 i (by omega);have hcbi:=HC.out.2 i;generalize hvi:l.getD i 0=u at hci hcbi;have Hu:Aside (l.getD i 0=u):=hvi;clear hvi hi1;have hu0:=hcbi.1;have hu1:=hcbi.2;clear hcbi;go_wp2;go_round
                    case rel=>exact ⟨i,_,by omega,B.out.down HV.out.2.1 (by unfold DIG;rw [Hu.out]),rfl,by go_num⟩
                    case measure=>first | (simp [intOf];done) | (simp [intOf];omega)
          · rw [if_neg (fun h=>h9 h.1)] at hst
            have h9':((k:Int) == 9)=false:=by simp;omega
            by_cases hk0:k=0
            · subst hk0
              rw [if_neg (fun h=>by omega)] at hst;rw [Nat.add_zero] at hc;simp only [Prod.mk.injEq] at hst;have HV:Aside (Tops (DIG l) (0+1) 0 (VAL (DIG l) (0+1))/\VAL (DIG l) (0+1)<2 ^ 64/\r1=((VAL (DIG l) (0+1):Nat):Int)):=zaT (HC.out.2) Hv.out (by omega) (by omega) (by omega) hst.1;obtain ⟨_,rfl,rfl⟩:=hst;clear A;go_wp2;go_loop [6,7] (fun s6 s7=>∃ (j:Nat) (x:Int),j<=0+1/\Aside (Tops (DIG l) j x (VAL (DIG l) (0+1)))/\s6=.int .u64 x/\s7=.int .i64 ((j:Int) - 1)) (fun _ s=>(intOf s+1).toNat)
              case atStart=>exact ⟨0+1,0,Nat.le_refl _,HV.out.1,rfl,by first | rfl | go_num⟩
              case round=>
                obtain ⟨j,x,hj,B,rfl,rfl⟩:=hrel;cases j with
                | zero=>
                  obtain rfl:x=r1:=by
                    obtain ⟨y,rfl,hy⟩:=B.out;rw [HV.out.2.2,<-hy];simp [VAL]
                  clear B HV;go_wp2;go_ret3
                  exact ⟨rfl,rfl⟩
                | succ i=>
                  have hi1:((i+1:Nat):Int) - 1=(i:Int):=by omega
                  rw [hi1];have hi0:(0:Int)<=(i:Int):=by omega
                  have hin:(i:Int)<(n:Int):=by omega
                  have hci:=HC.out.1 i (by omega);have hcbi:=HC.out.2 i;generalize hvi:l.getD i 0=u at hci hcbi;have Hu:Aside (l.getD i 0=u):=hvi;clear hvi hi1;have hu0:=hcbi.1;have hu1:=hcbi.2;clear hcbi;go_wp2;go_round
                  case rel=>exact ⟨i,_,by omega,B.out.down HV.out.2.1 (by unfold DIG;rw [Hu.out]),rfl,by go_num⟩
                  case measure=>first | (simp [intOf];done) | (simp [intOf];omega)
            · have hkp:0<(k:Int):=by omega
              by_cases hz:v=0
              · subst hz
                rw [if_pos ⟨rfl,by omega⟩] at hst;simp only [Prod.mk.injEq] at hst;obtain ⟨rfl,rfl,rfl⟩:=hst;clear A;go_wp2;go_ret3
                exact ⟨rfl,rfl⟩
              · rw [if_neg (fun h=>hz h.1)] at hst
                simp only [Prod.mk.injEq] at hst;have hvb:(v == 0)=false:=by simp [hz]
                clear hz;have HV:Aside (Tops (DIG l) (k+1) 0 (VAL (DIG l) (k+1))/\VAL (DIG l) (k+1)<2 ^ 64/\r1=((VAL (DIG l) (k+1):Nat):Int)):=zaT (HC.out.2) Hv.out (by omega) (by omega) (by omega) hst.1;obtain ⟨_,rfl,rfl⟩:=hst;clear A;go_wp2;go_loop [6,7] (fun s6 s7=>∃ (j:Nat) (x:Int),j<=k+1/\Aside (Tops (DIG l) j x (VAL (DIG l) (k+1)))/\s6=.int .u64 x/\s7=.int .i64 ((j:Int) - 1)) (fun _ s=>(intOf s+1).toNat)
                case atStart=>exact ⟨k+1,0,Nat.le_refl _,HV.out.1,rfl,by first | rfl | go_num⟩
                case round=>
                  obtain ⟨j,x,hj,B,rfl,rfl⟩:=hrel;cases j with
                  | zero=>
                    obtain rfl:x=r1:=by
                      obtain ⟨y,rfl,hy⟩:=B.out;rw [HV.out.2.2,<-hy];simp [VAL]
                    clear B HV;go_wp2;go_ret3
                    exact ⟨rfl,rfl⟩
                  | succ i=>
                    have hi1:((i+1:Nat):Int) - 1=(i:Int):=by omega
                    rw [hi1];have hi0:(0:Int)<=(i:Int):=by omega
                    have hin:(i:Int)<(n:Int):=by omega
                    have hci:=HC.out.1 i (by omega);have hcbi:=HC.out.2 i;generalize hvi:l.getD i 0=u at hci hcbi;have Hu:Aside (l.getD i 0=u):=hvi;clear hvi hi1;have hu0:=hcbi.1;have hu1:=hcbi.2;clear hcbi;go_wp2;go_round
                    case rel=>exact ⟨i,_,by omega,B.out.down HV.out.2.1 (by unfold DIG;rw [Hu.out]),rfl,by go_num⟩
                    case measure=>first | (simp [intOf];done) | (simp [intOf];omega)
      · obtain rfl:k=10:=by omega
        have hall:=zfs (n:=n) (by omega) A.out;rw [hR.out] at hall;simp only [Prod.mk.injEq] at hall;obtain ⟨rfl,rfl,rfl⟩:=hall;clear A;go_wp2;go_ret3
        exact ⟨rfl,rfl⟩
    · obtain rfl:k=n:=by omega
      by_cases h10:k=10
      · subst h10
        have hall:=zfs (n:=10) (by omega) A.out;rw [hR.out] at hall;simp only [Prod.mk.injEq] at hall;obtain ⟨rfl,rfl,rfl⟩:=hall;clear A;go_wp2;go_ret3
        exact ⟨rfl,rfl⟩
      · have hall:=zft (l:=l) (n:=k) (by omega) A.out
        rw [hR.out] at hall;simp only [Prod.mk.injEq] at hall;obtain ⟨rfl,rfl,rfl⟩:=hall;have hk10':((k:Int) == 10)=false:=by simp;omega
        clear A;go_wp2;go_ret3
        exact ⟨rfl,rfl⟩
theorem z3r (a:Option Addr) (n c:Nat) (l:List Int) (w:World) (hB:Bytes w a n l) (hmax:n<=140737488355328):
  Calls Tryz.prog 25 #[.slice a n c] w fun e w'=>e=.returned (.tuple #[.int .u64 (LG l n 10 0 0).1,.int .i64 (LG l n 10 0 0).2.1,.int .i64 (LG l n 10 0 0).2.2])/\w=w':=by
 rcases Nat.eq_zero_or_pos n with h | h
 ·subst h
  exact z9z a c w
 ·obtain ⟨b,off,rfl,_,_⟩:=hB.2.1 h
  exact zbJ b off n c l _ _ _ rfl w hB h hmax
end Go.Proofs.YtdggkbpabjgdfaaGreatDoor
namespace Go.Proofs.YtdggkbpabjgdfaaGreatDoor
open Go.RowKit
set_option maxRecDepth 100000
theorem zaU (S I:Nat) (a:Option Addr) (n c:Nat) (w:World):Calls Tryz.prog 26 #[.agg #[.int .u64 (S:Int),.int .u64 (I:Int),.slice a n c]] w fun e w'=>e=.returned (.tuple #[.int .i64 ((PLA I S).2.length:Int),.int .i64 (PLA I S).1])/\Below w.heap.size w w':=by
 have C:Aside (∀ W,Calls Tryz.prog 55 #[.int .u64 (I:Int),.int .u64 (S:Int)] W fun e w'=>∃ v,e=.returned (.tuple #[v,.int .i64 (PLA I S).1])/\w'.ownsRow W.heap.size 22 1 v (PLA I S).2.length (z04 (PLA I S).2)/\Below W.heap.size W w'):=fun W=>zeD I S W;obtain ⟨E,hE⟩:∃ E,(PLA I S).1=E:=⟨_,rfl⟩
 obtain ⟨N,hN⟩:∃ N,(PLA I S).2.length=N:=⟨_,rfl⟩
 rw [hE,hN] at C ⊢;generalize (PLA I S).2=L at *
 have Z:Aside (Below w.heap.size w (w.alloc (.cells #[.int .u64 (S:Int),.int .u64 (I:Int),.slice a n c] 40))):=(Below.refl _ _).alloc (Nat.le_refl _) _;clear hE hN;go_enter Tryz.func26,Tryz.ntmps26;go_wp2_with fail
 refine (C.out _).mono ?_;rintro e w1 ⟨v,rfl,hrow,hb⟩;obtain ⟨av,cv,rfl,_⟩:=z0P hrow;have Z2:Aside (Below w.heap.size w w1):=Z.out.trans (hb.mono Z.out.size);clear hrow hb C Z;go_wp2;go_ret2;exact ⟨rfl,Z2.out⟩
theorem z4s (F S:Nat) (a:Option Addr) (n c:Nat) (w:World):Calls Tryz.prog 34 #[.agg #[.int .u64 (F:Int),.int .u64 (S:Int),.slice a n c]] w fun e w'=>e=.returned (.tuple #[.int .i64 ((PPA F S).2.length:Int),.int .i64 (PPA F S).1])/\Below w.heap.size w w':=by
 have C:Aside (∀ W,Calls Tryz.prog 62 #[.int .u64 (F:Int),.int .u64 (S:Int)] W fun e w'=>∃ v,e=.returned (.tuple #[v,.int .i64 (PPA F S).1])/\w'.ownsRow W.heap.size 22 1 v (PPA F S).2.length (z04 (PPA F S).2)/\Below W.heap.size W w'):=fun W=>zeE F S W;obtain ⟨E,hE⟩:∃ E,(PPA F S).1=E:=⟨_,rfl⟩
 obtain ⟨N,hN⟩:∃ N,(PPA F S).2.length=N:=⟨_,rfl⟩
 rw [hE,hN] at C ⊢;generalize (PPA F S).2=L at *
 have Z:Aside (Below w.heap.size w (w.alloc (.cells #[.int .u64 (F:Int),.int .u64 (S:Int),.slice a n c] 48))):=(Below.refl _ _).alloc (Nat.le_refl _) _;clear hE hN;go_enter Tryz.func34,Tryz.ntmps34;go_wp2_with fail
 refine (C.out _).mono ?_;rintro e w1 ⟨v,rfl,hrow,hb⟩;obtain ⟨av,cv,rfl,_⟩:=z0P hrow;have Z2:Aside (Below w.heap.size w w1):=Z.out.trans (hb.mono Z.out.size);clear hrow hb C Z;go_wp2;go_ret2;exact ⟨rfl,Z2.out⟩
def z22 (h:List Int) (k:Nat):List Int:=h.take k ++ List.replicate (32 - k) 0
theorem zdK (h:List Int):z22 h 0=ZND:=rfl
theorem zfu {h:List Int} (hl:h.length=32):z22 h 32=h:=by
 unfold z22;rw [List.take_of_length_le (by omega)];simp
theorem z1U {h:List Int} (hl:h.length=32) {k:Nat} (hk:k<=32):(z22 h k).length=32:=by
 unfold z22;simp;omega
theorem zdL {h:List Int} (hl:h.length=32) {k:Nat} (hk:k<32):(z01 (z22 h k)).toArray.setIfInBounds k (.int .u8 (h.getD k 0))=(z01 (z22 h (k+1))).toArray:=by
 apply Array.ext_getElem?;intro j;rw [Array.getElem?_setIfInBounds];by_cases hj:j<32
 ·rw [List.getElem?_toArray,List.getElem?_toArray,z0G _ j (by rw [z1U hl (by omega)];exact hj),z0G _ j (by rw [z1U hl (by omega)];exact hj)]
  have hs:(z01 (z22 h k)).toArray.size=32:=by simp [z01,z1U hl (show k<=32 by omega)]
  by_cases e:k=j
  ·subst e
   rw [if_pos rfl,if_pos (by omega)];unfold z22;rw [List.getD_eq_getElem?_getD (l:=h.take (k+1) ++ _),List.getElem?_append_left (by simp;omega),List.getElem?_take,if_pos (by omega),List.getD_eq_getElem?_getD]
  ·rw [if_neg e]
   unfold z22;congr 2
   rw [List.getD_eq_getElem?_getD,List.getD_eq_getElem?_getD];by_cases e2:j<k
   ·rw [List.getElem?_append_left (by simp;omega),List.getElem?_append_left (by simp;omega),List.getElem?_take,if_pos e2,List.getElem?_take,if_pos (by omega)]
   ·rw [List.getElem?_append_right (by simp;omega),List.getElem?_append_right (by simp;omega),List.getElem?_replicate,List.getElem?_replicate]
    simp only [List.length_take];rw [if_pos (by omega),if_pos (by omega)]
 ·rw [if_neg (by omega),Array.getElem?_eq_none (by simp [z01,z1U hl (show k<=32 by omega)];omega),Array.getElem?_eq_none (by simp [z01,z1U hl (show k+1<=32 by omega)];omega)]
def TAKN (t:List Int) (N:Nat):Int × Nat × List Int:=if t.length<32*N then (11,0,[]) else if 32*N<t.length then (13,0,[]) else (0,N,t)
theorem z56 (w:World) (b:Nat):w.ownsRow b 24 32 (.slice none 0 0) 0 (z01 []):=World.ownsRow_nil _ _ _ _
theorem zcs (a:Option Addr) (m c N:Nat) (hm:m<=1000000) (hN:N<=1000) (t:List Int) (w:World) (hB:Bytes w a m t):
    Calls Tryz.prog 27 #[.slice a m c,.int .i64 (N:Int)] w fun e w'=>∃ v,e=.returned (.tuple #[v,.int .i64 (TAKN t N).1])/\w'.ownsRow w.heap.size 24 32 v (TAKN t N).2.1 (z01 (TAKN t N).2.2)/\Below w.heap.size w w':=by
  have hlm:t.length=m:=hB.1;have e32:wrap64 (32*(N:Int))=32*(N:Int):=by unfold wrap64;omega
  have q1:IntKind.i64.wrap ((m:Int) / 32)=(m:Int) / 32:=by rw [IntKind.wrap_i64];omega
  have q2:(m:Int).tdiv 32=(m:Int) / 32:=Int.tdiv_eq_ediv_of_nonneg (by omega);unfold TAKN;rw [hlm];by_cases h1:m<32*N
  · rw [if_pos h1]
    have k1:(m:Int) / 32<(N:Int):=by omega
    clear hB hm hN h1 hlm;go_enter Tryz.func27,Tryz.ntmps27;go_wp2;go_ret2;exact ⟨_,rfl,z56 _ _,Below.refl _ _⟩
  · rw [if_neg h1]
    have k1:¬ (m:Int) / 32<(N:Int):=by omega
    by_cases h2:32*N<m
    · rw [if_pos h2]
      have k2:32*(N:Int)<(m:Int):=by omega
      clear hB hm hN h1 h2 hlm;go_enter Tryz.func27,Tryz.ntmps27;go_wp2;go_ret2;exact ⟨_,rfl,z56 _ _,Below.refl _ _⟩
    · rw [if_neg h2]
      dsimp only;have k2:¬ 32*(N:Int)<(m:Int):=by omega
      have HA:Aside (m=32*N/\t.length=32*N/\N<=1000/\Bytes w a m t):=⟨by omega,by omega,hN,hB⟩
      clear hB hm hN h1 h2 hlm;go_enter Tryz.func27,Tryz.ntmps27;go_wp2;clear k1 k2 q1 q2 e32;go_loopg [6,7] N (fun q s6 s7 wx=>∃ i:Nat,s7=.int .i64 (i:Int)/\Aside (i+q=N/\wx.ownsRow w.heap.size 24 32 s6 i (z01 (t.take (32*i)))/\Below w.heap.size w wx))
      case atStart=>exact ⟨0,rfl,by omega,z56 _ _,Below.refl _ _⟩
      case round=>
        obtain ⟨i,rfl,A⟩:=hrel;cases gk with
        | zero=>
          obtain rfl:i=N:=by have:=A.out.1;omega
          have hlt:¬ (i:Int)<(i:Int):=by omega
          have R:Aside (wr.ownsRow w.heap.size 24 32 u6 i (z01 t)/\Below w.heap.size w wr):=by
            have:=A.out.2.1;rw [List.take_of_length_le (by have:=HA.out;omega)] at this;exact ⟨this,A.out.2.2⟩
          clear A HA;go_wp2;go_ret2;exact ⟨_,rfl,R.out.1,R.out.2⟩
        | succ q=>
          have hlt:(i:Int)<(N:Int):=by have:=A.out.1;omega
          go_wp2;generalize wr=wo at *
          have R0:Aside (i+1+q=N/\(wo.alloc (.cells ZARR 24)).ownsRow w.heap.size 24 32 u6 i (z01 (t.take (32*i)))/\Below w.heap.size w (wo.alloc (.cells ZARR 24))/\Has (wo.alloc (.cells ZARR 24)) wo.heap.size (z01 (z22 (HSH t i) 0)).toArray 24/\(HSH t i).length=32):=by
            obtain ⟨a1,a2,a3⟩:=A.out;exact ⟨by omega,a2.alloc _,a3.alloc a3.size _,by rw [zdK,z28];exact Has.new _ _ _,z16 HA.out.2.1 (by omega)⟩
          have BB:Aside (w.heap.size<=wo.heap.size/\∀ k,u6.ownBlock=some k->k≠wo.heap.size):=⟨A.out.2.2.size,fun k e=>by have:=(A.out.2.1.lt k e).2;omega⟩
          clear A;obtain ⟨hb,hhb⟩:∃ hb,hb=wo.heap.size:=⟨_,rfl⟩
          rw [<-hhb] at R0 BB ⊢;clear hhb;rw [show (#[.int .u8 0,.int .u8 0,.int .u8 0,.int .u8 0,.int .u8 0,.int .u8 0,.int .u8 0,.int .u8 0,.int .u8 0,.int .u8 0,.int .u8 0,.int .u8 0,.int .u8 0,.int .u8 0,.int .u8 0,.int .u8 0,.int .u8 0,.int .u8 0,.int .u8 0,.int .u8 0,.int .u8 0,.int .u8 0,.int .u8 0,.int .u8 0,.int .u8 0,.int .u8 0,.int .u8 0,.int .u8 0,.int .u8 0,.int .u8 0,.int .u8 0,.int .u8 0]:Array Value)=ZARR from rfl];generalize wo.alloc (.cells ZARR 24)=w1 at *
          go_loopg [9] 32 (fun p s9 wx=>∃ k:Nat,s9=.int .i64 (k:Int)/\Aside (k+p=32/\wx.ownsRow w.heap.size 24 32 u6 i (z01 (t.take (32*i)))/\Below w.heap.size w wx/\Has wx hb (z01 (z22 (HSH t i) k)).toArray 24))
          case atStart=>exact ⟨0,rfl,by omega,R0.out.2.1,R0.out.2.2.1,R0.out.2.2.2.1⟩
          case round=>
            obtain ⟨k,rfl,A⟩:=hrel;cases gk with
            | zero=>
              obtain rfl:k=32:=by have:=A.out.1;omega
              have hlt2:¬ (((32:Nat):Int))<32:=by omega
              have R:Aside (i+1+q=N/\wr.ownsRow w.heap.size 24 32 u6 i (z01 (t.take (32*i)))/\Below w.heap.size w wr/\Has wr hb (z01 (HSH t i)).toArray 24/\t.take (32*(i+1))=t.take (32*i) ++ HSH t i/\N<=1000):=by
                obtain ⟨a1,a2,a3,a4⟩:=A.out;rw [zfu R0.out.2.2.2.2] at a4;exact ⟨R0.out.1,a2,a3,a4,z3E t i,HA.out.2.2.1⟩
              have h32:=R0.out.2.2.2.2;have E1:Aside (wrap64 ((i:Int)+1)=((i+1:Nat):Int)):=by have:=R.out;show wrap64 ((i:Int)+1)=((i+1:Nat):Int);unfold wrap64;omega
              clear A R0 HA;generalize HSH t i=H at *
              go_wp2_with (first
                | (refine wpList_load_row rfl 24 (.tmp 8) rfl hb rfl 24 (z01 H).toArray (0,0) _ R.out.2.2.2.1 Tryz.underlying24 rfl (z02 h32) ?_)
                | (refine z1B _ rfl 38 24 (.tmp 39) rfl (z01 H).toArray rfl 32 _ _ Tryz.underlying38 z1A (by simp [z01,h32]) rfl (by decide) (by decide) ?_)
                | (at_builtin;refine z2V _ rfl (.tmp 38) (.tmp 40) rfl w.heap.size u6 i _ rfl (R.out.2.1.alloc _) _ 1 H h32 rfl (Has.new _ _ _) (by have:=R.out;omega) (by have:=R.out.2.2.1.size;simp;omega) ?_;intro g2 c2 w2 hown hgrow hat hg))
              have R2:Aside (i+1+q=N/\w2.ownsRow w.heap.size 24 32 (.slice (some ⟨g2,0,none⟩) (i+1) c2) (i+1) (z01 (t.take (32*(i+1))))/\Below w.heap.size w w2):=by
                obtain ⟨r1,r2,r3,r4,r5,r6⟩:=R.out;refine ⟨r1,by rw [r5,z0x];exact hown,(r3.alloc r3.size _).grown hgrow (by have:=r3.size;simp;omega) (fun k e=>(r2.lt k e).1)⟩
              clear hown hgrow hat hg R h32;have e1:=E1.out;go_wp2;go_roundg q
              case measure=>exact Nat.lt_succ_self _
              case rel=>exact ⟨i+1,by first | rfl | (rw [E1.out]),R2.out⟩
            | succ p=>
              obtain ⟨a1,a2,a3,a4⟩:=A.out;have hk:k<32:=by omega
              have hlt2:(k:Int)<32:=by omega
              obtain ⟨h1,h2,h3,h4⟩:=HA.out;have hiN:i<N:=by have:=R0.out.1;omega
              obtain ⟨b,o,rfl,hbl,hc⟩:=h4.2.1 (by omega);obtain ⟨J,hJ⟩:∃ J,32*i+k=J:=⟨_,rfl⟩
              have hx:wr.cell? ⟨b,o+J,none⟩=some (.int .u8 ((HSH t i).getD k 0)):=by
                rw [zac hk,hJ];exact (a3.cell (p:=⟨b,o+J,none⟩) hbl).trans (hc J (by omega))
              have M1:Aside (wrap64 (32*(i:Int))=32*(i:Int)):=by show wrap64 (32*(i:Int))=32*(i:Int);unfold wrap64;omega
              have M2:Aside (wrap64 (32*(i:Int)+(k:Int))=(J:Int)):=by show wrap64 (32*(i:Int)+(k:Int))=(J:Int);unfold wrap64;omega
              have m3:(J:Int)<(m:Int):=by omega
              have y0:wr.cell? ⟨hb,k,none⟩=some (.int .u8 ((z22 (HSH t i) k).getD k 0)):=by
                rw [a4.cell,List.getElem?_toArray,z0G _ k (by rw [z1U R0.out.2.2.2.2 (by omega)];exact hk)]
              have y1:wr.frozen? ⟨hb,k,none⟩=false:=a4.frozen k;have hst:=a4.set k (.int .u8 ((HSH t i).getD k 0));rw [zdL R0.out.2.2.2.2 hk] at hst
              have R:Aside (k+1+p=32/\(wr.setCell ⟨hb,k,none⟩ (.int .u8 ((HSH t i).getD k 0))).ownsRow w.heap.size 24 32 u6 i (z01 (t.take (32*i)))/\Below w.heap.size w (wr.setCell ⟨hb,k,none⟩ (.int .u8 ((HSH t i).getD k 0)))/\Has (wr.setCell ⟨hb,k,none⟩ (.int .u8 ((HSH t i).getD k 0))) hb (z01 (z22 (HSH t i) (k+1))).toArray 24):=
                ⟨by omega,z3F a2 fun j hj=>Below.heap_setCell _ _ _ j (BB.out.2 j hj),a3.setCell (p:=⟨hb,k,none⟩) BB.out.1 _,hst⟩
              have E1:Aside (wrap64 ((k:Int)+1)=((k+1:Nat):Int)):=by show wrap64 ((k:Int)+1)=((k+1:Nat):Int);unfold wrap64;omega
              clear a1 a2 a3 a4 hk h1 h2 h3 h4 hbl hc hJ hst A HA R0 BB;generalize (HSH t i).getD k 0=v at *
              generalize (z22 (HSH t i) k).getD k 0=v0 at *
              have e1:=E1.out;have m1:=M1.out;have m2:=M2.out;go_wp2;go_roundg p
              case measure=>exact Nat.lt_succ_self _
              case rel=>exact ⟨k+1,by first | rfl | (rw [E1.out]),R.out⟩
theorem zfv {l:List Int} {J:Nat} (h:J<l.length):l.take (J+1)=l.take J ++ [l.getD J 0]:=by
 rw [List.take_add_one,List.getElem?_eq_getElem h,List.getD_eq_getElem?_getD,List.getElem?_eq_getElem h];rfl
theorem zfw (B:Nat) (v:Value) (np:Nat) (PRE:List Int) (hnp:np<=1000000) (a:Option Addr) (n c:Nat) (hn:n<=1000) (l:List Int) (w:World) (hB:B<=w.heap.size) (hv:w.ownsRow B 5 1 v np (z01 PRE)) (hF:Flat w a n l) (hFa:0<n->∀ b o,a=some ⟨b,o,none⟩->b<B):
  Calls Tryz.prog 57 #[v,.slice a n c] w fun e w'=>∃ v',e=.returned v'/\w'.ownsRow B 5 1 v' (np+32*n) (z01 (PRE ++ l))/\Below B w w':=by
 have HA:Aside (np<=1000000/\n<=1000/\l.length=32*n/\Flat w a n l/\(0<n->∀ b o,a=some ⟨b,o,none⟩->b<B)/\B<=w.heap.size):=⟨hnp,hn,hF.1,hF,hFa,hB⟩
 have V0:Aside (w.ownsRow B 5 1 v np (z01 PRE)):=hv;clear hnp hn hF hFa hB hv;go_enter Tryz.func57,Tryz.ntmps57;go_wp2;go_loopg [0,5] n (fun q s0 s5 wx=>∃ i:Nat,s5=.int .i64 (i:Int)/\Aside (i+q=n/\wx.ownsRow B 5 1 s0 (np+32*i) (z01 (PRE ++ l.take (32*i)))/\Below B w wx))
 case atStart=>exact ⟨0,rfl,by omega,by simpa using V0.out,Below.refl _ _⟩
 case round=>
  obtain ⟨i,rfl,A⟩:=hrel;clear V0;cases gk with
  | zero=>
    obtain rfl:i=n:=by have:=A.out.1;omega
    have hlt:¬ (i:Int)<(i:Int):=by omega
    have R:Aside (wr.ownsRow B 5 1 u0 (np+32*i) (z01 (PRE ++ l))/\Below B w wr):=by
     have:=A.out.2.1;rw [List.take_of_length_le (by have:=HA.out;omega)] at this;exact ⟨this,A.out.2.2⟩
    clear A HA;go_wp2;go_ret;exact ⟨_,rfl,R.out⟩
  | succ q=>
    have hlt:(i:Int)<(n:Int):=by have:=A.out.1;omega
    have R0:Aside (i+1+q=n/\wr.ownsRow B 5 1 u0 (np+(32*i+0)) (z01 (PRE ++ l.take (32*i+0)))/\Below B w wr):=⟨by have:=A.out.1;omega,A.out.2.1,A.out.2.2⟩
    clear A;go_wp2;generalize wr=wo at *
    generalize u0=vo at *
    go_loopg [0,6] 32 (fun p s0 s6 wx=>∃ k:Nat,s6=.int .i64 (k:Int)/\Aside (k+p=32/\wx.ownsRow B 5 1 s0 (np+(32*i+k)) (z01 (PRE ++ l.take (32*i+k)))/\Below B w wx))
    case atStart=>exact ⟨0,rfl,by omega,R0.out.2.1,R0.out.2.2⟩
    case round=>
     obtain ⟨k,rfl,A⟩:=hrel;cases gk with
     | zero=>
       obtain rfl:k=32:=by have:=A.out.1;omega
       have hlt2:¬ (((32:Nat):Int))<32:=by omega
       have R:Aside (i+1+q=n/\wr.ownsRow B 5 1 u0 (np+32*(i+1)) (z01 (PRE ++ l.take (32*(i+1))))/\Below B w wr):=⟨R0.out.1,by rw [show 32*(i+1)=32*i+32 by omega];exact A.out.2.1,A.out.2.2⟩
       have E1:Aside (wrap64 ((i:Int)+1)=((i+1:Nat):Int)):=by have:=HA.out;show wrap64 ((i:Int)+1)=((i+1:Nat):Int);unfold wrap64;omega
       clear A R0 HA;have e1:=E1.out;go_wp2;go_roundg q
       case measure=>exact Nat.lt_succ_self _
       case rel=>exact ⟨i+1,by first | rfl | (rw [E1.out]),R.out⟩
     | succ p=>
       obtain ⟨a1,a2,a3⟩:=A.out;obtain ⟨h1,h2,h3,h4,h5,h6⟩:=HA.out;have hiN:i<n:=by have:=R0.out.1;omega
       have hk:k<32:=by omega
       have hlt2:(k:Int)<32:=by omega
       obtain ⟨b,o,rfl,hbl,hc⟩:=h4.2.1 (by omega)
       have hx:wr.cell? ⟨b,o+i*32+k,none⟩=some (.int .u8 (l.getD (32*i+k) 0)):=by
        rw [show o+i*32+k=o+(32*i+k) by omega];exact (a3.cell (p:=⟨b,o+(32*i+k),none⟩) (h5 (by omega) b o rfl)).trans (hc _ (by omega))
       have hrng:=h4.2.2 (l.getD (32*i+k) 0) (by rw [List.getD_eq_getElem?_getD,List.getElem?_eq_getElem (by omega)];exact List.getElem_mem _);have htk:=zfv (l:=l) (J:=32*i+k) (by omega);have R:Aside (k+1+p=32/\np+(32*i+k)+1<=140737488355328/\wr.ownsRow B 5 1 u0 (np+(32*i+k)) (z01 (PRE ++ l.take (32*i+k)))/\Below B w wr/\B<=wr.heap.size/\(0<=l.getD (32*i+k) 0/\l.getD (32*i+k) 0<=255)/\PRE ++ l.take (32*i+(k+1))=PRE ++ l.take (32*i+k) ++ [l.getD (32*i+k) 0]):=⟨by omega,by omega,a2,a3,Nat.le_trans h6 a3.size,hrng,by rw [<-Nat.add_assoc,htk,List.append_assoc]⟩
       have E1:Aside (wrap64 ((k:Int)+1)=((k+1:Nat):Int)):=by show wrap64 ((k:Int)+1)=((k+1:Nat):Int);unfold wrap64;omega
       clear a1 a2 a3 h1 h2 h3 h4 h5 h6 hiN hk hbl hc hrng htk A R0 HA;generalize l.getD (32*i+k) 0=x at *
       go_wp2_with (at_builtin;refine z1k _ rfl (.tmp 17) (.tmp 24) rfl B u0 (np+(32*i+k)) _ rfl (R.out.2.2.1.alloc _) wr.heap.size 0 1 1 [x] rfl (z3R wr x R.out.2.2.2.2.2.1.1 R.out.2.2.2.2.2.1.2) (by decide) R.out.2.1 (by have:=R.out.2.2.2.2.1;simp;omega) ?_;intro g2 c2 w2 hown hgrow hg)
       have R2:Aside (k+1+p=32/\w2.ownsRow B 5 1 (.slice (some ⟨g2,0,none⟩) (np+(32*i+k)+1) c2) (np+(32*i+(k+1))) (z01 (PRE ++ l.take (32*i+(k+1))))/\Below B w w2):=by
        obtain ⟨r1,r2,r3,r4,r5,r6,r7⟩:=R.out;refine ⟨r1,by rw [r7,show np+(32*i+(k+1))=np+(32*i+k)+1 by omega];exact hown,(r4.alloc r5 _).grown hgrow (by simp;omega) (fun k e=>(r3.lt k e).1)⟩
       clear hown hgrow hg R hx;have e1:=E1.out;go_wp2;go_roundg p
       case measure=>exact Nat.lt_succ_self _
       case rel=>exact ⟨k+1,by first | rfl | (rw [E1.out]),R2.out⟩
theorem z5J (X Y:Nat) (hX:X<2 ^ 64) (hY:Y<2 ^ 64) (a:Option Addr) (n c:Nat) (hn:n<=1000) (l:List Int) (w:World) (hF:Flat w a n l):
  Calls Tryz.prog 28 #[.agg #[.int .u64 (X:Int),.int .u64 (Y:Int),.slice a n c]] w (ANSB w (ENC X Y n l)):=by
 have C1:Aside (∀ W,Calls Tryz.prog 26 #[.agg #[.int .u64 (X:Int),.int .u64 (Y:Int),.slice a n c]] W fun e w'=>e=.returned (.tuple #[.int .i64 ((PLA Y X).2.length:Int),.int .i64 (PLA Y X).1])/\Below W.heap.size W w'):=fun W=>zaU X Y a n c W;have c1:=z36 X hX;have c2:=z36 Y hY;have hl1:=z0Y X;have hl2:=z0Y Y;have h91:=z4k X;have h92:=z4k Y;have hr1:=z30 hX;have hr2:=z30 hY;obtain ⟨A,hA⟩:∃ A,ENC X Y n l=A:=⟨_,rfl⟩
 rw [hA];unfold ENC ENCB at hA;obtain ⟨E,hE⟩:∃ E,(PLA Y X).1=E:=⟨_,rfl⟩
 obtain ⟨np,hP⟩:∃ np,(PLA Y X).2.length=np:=⟨_,rfl⟩
 rw [hE,hP] at C1 hA;have HA:Aside ((if E≠0 then (E,[]) else if n≠np then (70,[]) else (0,77 :: (z0s X ++ z0s Y ++ l)))=A):=hA;clear hA hE hP;generalize z0s X=SX at *
 generalize z0s Y=SY at *
 have hn1:0<NTOP X+1:=by omega
 have hn2:0<NTOP Y+1:=by omega
 have hm1:NTOP X+1<=10:=by omega
 have hm2:NTOP Y+1<=10:=by omega
 clear h91 h92;generalize NTOP X+1=nx at *
 generalize NTOP Y+1=ny at *
 have HB:Aside (Flat w a n l/\n<=1000/\SX.length=nx/\SY.length=ny/\nx<=10/\ny<=10/\(∀ x∈SX,0<=x/\x<=255)/\(∀ x∈SY,0<=x/\x<=255)):=⟨hF,hn,hl1,hl2,hm1,hm2,hr1,hr2⟩
 have R:Aside (Below w.heap.size w (w.alloc (.cells #[.int .u64 (X:Int),.int .u64 (Y:Int),.slice a n c] 40))/\Has (w.alloc (.cells #[.int .u64 (X:Int),.int .u64 (Y:Int),.slice a n c] 40)) w.heap.size #[.int .u64 (X:Int),.int .u64 (Y:Int),.slice a n c] 40):=⟨(Below.refl _ _).alloc (Nat.le_refl _) _,Has.new _ _ _⟩
 clear hF hn hl1 hl2 hm1 hm2 hr1 hr2 hX hY;go_enter Tryz.func28,Tryz.ntmps28;go_wp2_with fail
 refine (C1.out _).mono ?_;rintro e w1 ⟨rfl,hb⟩;have R1:Aside (Below w.heap.size w w1/\Has w1 w.heap.size #[.int .u64 (X:Int),.int .u64 (Y:Int),.slice a n c] 40):=⟨R.out.1.trans (hb.mono R.out.1.size),R.out.2.keep hb⟩
 clear hb R C1;have z0:w1.cell? ⟨w.heap.size,0,none⟩=some (.int .u64 (X:Int)):=R1.out.2.cell 0;have z2:w1.cell? ⟨w.heap.size,2,none⟩=some (.slice a n c):=R1.out.2.cell 2;by_cases hE:E=0
 ·subst hE
  by_cases hne:n=np
  ·subst hne
   have HL:Aside (A=(0,77 :: (SX ++ SY ++ l))):=by have:=HA.out;show A=_;simpa using this.symm
   clear HA;have R2:Aside ((w1.alloc (.cells #[.int .u8 77] 5)).ownsRow (w.heap.size+1) 5 1 (.slice (some ⟨w1.heap.size,0,none⟩) 1 1) 1 (z01 [77])/\Below w.heap.size w (w1.alloc (.cells #[.int .u8 77] 5))/\Has (w1.alloc (.cells #[.int .u8 77] 5)) w.heap.size #[.int .u64 (X:Int),.int .u64 (Y:Int),.slice a n c] 40):=⟨z0q (z60 w1 77) R1.out.2.lt,R1.out.1.alloc R1.out.1.size _,R1.out.2.alloc _⟩
   have z00:(w1.alloc (.cells #[.int .u8 77] 5)).cell? ⟨w.heap.size,0,none⟩=some (.int .u64 (X:Int)):=R2.out.2.2.cell 0;go_wp2_with fail
   obtain ⟨gb,hgb⟩:∃ gb,gb=w1.heap.size:=⟨_,rfl⟩
   rw [<-hgb] at R2 ⊢;clear hgb;generalize w1.alloc (.cells #[.int .u8 77] 5)=w2 at *
   refine (c1 _).mono ?_;rintro e w3 ⟨g3,q3,rfl,hown,hg,hb⟩;clear c1 z0 z2 z00 R1;have R3:Aside (w3.ownsRow (w.heap.size+1) 5 1 (.slice (some ⟨gb,0,none⟩) 1 1) 1 (z01 [77])/\Below w.heap.size w w3/\Has w3 w.heap.size #[.int .u64 (X:Int),.int .u64 (Y:Int),.slice a n c] 40/\Bytes w3 (some ⟨g3,0,none⟩) nx SX):=⟨z0m R2.out.1 hb,R2.out.2.1.trans (hb.mono R2.out.2.1.size),R2.out.2.2.keep hb,z2e hown hg HB.out.2.2.2.2.2.2.1⟩
   clear hown hg hb R2;go_wp2_with (at_builtin;refine z1k _ rfl (.tmp 20) (.tmp 23) rfl (w.heap.size+1) _ 1 [77] rfl R3.out.1 g3 0 nx q3 SX rfl R3.out.2.2.2 hn1 (by have:=HB.out;omega) R3.out.2.2.1.lt ?_;intro g4 q4 w4 hown hgrow hg;have hH:Has w4 w.heap.size #[.int .u64 (X:Int),.int .u64 (Y:Int),.slice a n c] 40:=R3.out.2.2.1.grown hgrow (fun e=>by have:=(R3.out.1.lt _ e).1;omega);have z1:w4.cell? ⟨w.heap.size,1,none⟩=some (.int .u64 (Y:Int)):=hH.cell 1)
   have R4:Aside (w4.ownsRow (w.heap.size+1) 5 1 (.slice (some ⟨g4,0,none⟩) (1+nx) q4) (1+nx) (z01 ([77] ++ SX))/\Below w.heap.size w w4/\Has w4 w.heap.size #[.int .u64 (X:Int),.int .u64 (Y:Int),.slice a n c] 40):=⟨hown,R3.out.2.1.grown hgrow R3.out.2.1.size (fun k e=>by have:=(R3.out.1.lt k e).1;omega),hH⟩
   clear hown hgrow hg hH R3 z1;refine (c2 _).mono ?_;rintro e w5 ⟨g5,q5,rfl,hown,hg,hb⟩;clear c2;have R5:Aside (w5.ownsRow (w.heap.size+1) 5 1 (.slice (some ⟨g4,0,none⟩) (1+nx) q4) (1+nx) (z01 ([77] ++ SX))/\Below w.heap.size w w5/\Has w5 w.heap.size #[.int .u64 (X:Int),.int .u64 (Y:Int),.slice a n c] 40/\Bytes w5 (some ⟨g5,0,none⟩) ny SY):=⟨z0m R4.out.1 hb,R4.out.2.1.trans (hb.mono R4.out.2.1.size),R4.out.2.2.keep hb,z2e hown hg HB.out.2.2.2.2.2.2.2⟩
   clear hown hg hb R4;go_wp2_with (at_builtin;refine z1k _ rfl (.tmp 25) (.tmp 28) rfl (w.heap.size+1) _ (1+nx) ([77] ++ SX) rfl R5.out.1 g5 0 ny q5 SY rfl R5.out.2.2.2 hn2 (by have:=HB.out;omega) R5.out.2.2.1.lt ?_;intro g6 q6 w6 hown hgrow hg;have hH:Has w6 w.heap.size #[.int .u64 (X:Int),.int .u64 (Y:Int),.slice a n c] 40:=R5.out.2.2.1.grown hgrow (fun e=>by have:=(R5.out.1.lt _ e).1;omega);have z3:w6.cell? ⟨w.heap.size,2,none⟩=some (.slice a n c):=hH.cell 2)
   have R6:Aside (w6.ownsRow (w.heap.size+1) 5 1 (.slice (some ⟨g6,0,none⟩) (1+nx+ny) q6) (1+nx+ny) (z01 ([77] ++ SX ++ SY))/\Below w.heap.size w w6/\w.heap.size+1<=w6.heap.size):=⟨hown,R5.out.2.1.grown hgrow R5.out.2.1.size (fun k e=>by have:=(R5.out.1.lt k e).1;omega),hH.lt⟩
   clear hown hgrow hg hH R5 z3;refine (zfw (w.heap.size+1) _ (1+nx+ny) ([77] ++ SX ++ SY) (by have:=HB.out;omega) a n c HB.out.2.1 l w6 R6.out.2.2 R6.out.1 (HB.out.1.below R6.out.2.1) (fun hn b o e=>by obtain ⟨b',o',e',hlt,_⟩:=HB.out.1.2.1 hn;rw [e] at e';cases e';omega)).mono ?_;rintro e w7 ⟨v',rfl,hown,hb⟩
   have R7:Aside (w7.ownsRow w.heap.size 5 1 v' (77 :: (SX ++ SY ++ l)).length (z01 (77 :: (SX ++ SY ++ l)))/\Below w.heap.size w w7):=by
    have hl:(77 :: (SX ++ SY ++ l)).length=1+nx+ny+32*n:=by
     have h1:=HB.out.1.1;have h2:=HB.out.2.2.1;have h3:=HB.out.2.2.2.1;simp only [List.length_cons,List.length_append];omega
    rw [hl];refine ⟨?_,R6.out.2.1.trans (hb.mono (Nat.le_succ _))⟩;have:=z0q hown (Nat.le_succ w.heap.size);simpa using this
   clear hown hb R6;go_wp2;go_ret2;rw [HL.out];exact ⟨v',rfl,R7.out⟩
  ·have hne':¬ (n:Int)=(np:Int):=by omega
   have HL:Aside (A=(70,[])):=by have:=HA.out;show A=_;simpa [hne] using this.symm
   clear HA hne;go_wp2;go_ret2;rw [HL.out];exact ⟨_,rfl,z3m _ _,R1.out.1⟩
 ·have hne:((E:Int) != 0)=true:=by simp [hE]
  have HL:Aside (A=(E,[])):=by have:=HA.out;show A=_;simpa [hE] using this.symm
  clear HA hE;go_wp2;go_ret2;rw [HL.out];exact ⟨_,rfl,z3m _ _,R1.out.1⟩
theorem z3g (X Y:Nat) (hX:X<2 ^ 64) (hY:Y<2 ^ 64) (a:Option Addr) (n c:Nat) (hn:n<=1000) (l:List Int) (w:World) (hF:Flat w a n l):
  Calls Tryz.prog 35 #[.agg #[.int .u64 (X:Int),.int .u64 (Y:Int),.slice a n c]] w (ANSB w (ENX X Y n l)):=by
 have C1:Aside (∀ W,Calls Tryz.prog 34 #[.agg #[.int .u64 (X:Int),.int .u64 (Y:Int),.slice a n c]] W fun e w'=>e=.returned (.tuple #[.int .i64 ((PPA X Y).2.length:Int),.int .i64 (PPA X Y).1])/\Below W.heap.size W w'):=fun W=>z4s X Y a n c W;have c1:=z36 X hX;have c2:=z36 Y hY;have hl1:=z0Y X;have hl2:=z0Y Y;have h91:=z4k X;have h92:=z4k Y;have hr1:=z30 hX;have hr2:=z30 hY;obtain ⟨A,hA⟩:∃ A,ENX X Y n l=A:=⟨_,rfl⟩
 rw [hA];unfold ENX ENCB at hA;obtain ⟨E,hE⟩:∃ E,(PPA X Y).1=E:=⟨_,rfl⟩
 obtain ⟨np,hP⟩:∃ np,(PPA X Y).2.length=np:=⟨_,rfl⟩
 rw [hE,hP] at C1 hA;have HA:Aside ((if E≠0 then (E,[]) else if n≠np then (70,[]) else (0,80 :: (z0s X ++ z0s Y ++ l)))=A):=hA;clear hA hE hP;generalize z0s X=SX at *
 generalize z0s Y=SY at *
 have hn1:0<NTOP X+1:=by omega
 have hn2:0<NTOP Y+1:=by omega
 have hm1:NTOP X+1<=10:=by omega
 have hm2:NTOP Y+1<=10:=by omega
 clear h91 h92;generalize NTOP X+1=nx at *
 generalize NTOP Y+1=ny at *
 have HB:Aside (Flat w a n l/\n<=1000/\SX.length=nx/\SY.length=ny/\nx<=10/\ny<=10/\(∀ x∈SX,0<=x/\x<=255)/\(∀ x∈SY,0<=x/\x<=255)):=⟨hF,hn,hl1,hl2,hm1,hm2,hr1,hr2⟩
 have R:Aside (Below w.heap.size w (w.alloc (.cells #[.int .u64 (X:Int),.int .u64 (Y:Int),.slice a n c] 48))/\Has (w.alloc (.cells #[.int .u64 (X:Int),.int .u64 (Y:Int),.slice a n c] 48)) w.heap.size #[.int .u64 (X:Int),.int .u64 (Y:Int),.slice a n c] 48):=⟨(Below.refl _ _).alloc (Nat.le_refl _) _,Has.new _ _ _⟩
 clear hF hn hl1 hl2 hm1 hm2 hr1 hr2 hX hY;go_enter Tryz.func35,Tryz.ntmps35;go_wp2_with fail
 refine (C1.out _).mono ?_;rintro e w1 ⟨rfl,hb⟩;have R1:Aside (Below w.heap.size w w1/\Has w1 w.heap.size #[.int .u64 (X:Int),.int .u64 (Y:Int),.slice a n c] 48):=⟨R.out.1.trans (hb.mono R.out.1.size),R.out.2.keep hb⟩
 clear hb R C1;have z0:w1.cell? ⟨w.heap.size,0,none⟩=some (.int .u64 (X:Int)):=R1.out.2.cell 0;have z2:w1.cell? ⟨w.heap.size,2,none⟩=some (.slice a n c):=R1.out.2.cell 2;by_cases hE:E=0
 ·subst hE
  by_cases hne:n=np
  ·subst hne
   have HL:Aside (A=(0,80 :: (SX ++ SY ++ l))):=by have:=HA.out;show A=_;simpa using this.symm
   clear HA;have R2:Aside ((w1.alloc (.cells #[.int .u8 80] 5)).ownsRow (w.heap.size+1) 5 1 (.slice (some ⟨w1.heap.size,0,none⟩) 1 1) 1 (z01 [80])/\Below w.heap.size w (w1.alloc (.cells #[.int .u8 80] 5))/\Has (w1.alloc (.cells #[.int .u8 80] 5)) w.heap.size #[.int .u64 (X:Int),.int .u64 (Y:Int),.slice a n c] 48):=⟨z0q (z60 w1 80) R1.out.2.lt,R1.out.1.alloc R1.out.1.size _,R1.out.2.alloc _⟩
   have z00:(w1.alloc (.cells #[.int .u8 80] 5)).cell? ⟨w.heap.size,0,none⟩=some (.int .u64 (X:Int)):=R2.out.2.2.cell 0;go_wp2_with fail
   obtain ⟨gb,hgb⟩:∃ gb,gb=w1.heap.size:=⟨_,rfl⟩
   rw [<-hgb] at R2 ⊢;clear hgb;generalize w1.alloc (.cells #[.int .u8 80] 5)=w2 at *
   refine (c1 _).mono ?_;rintro e w3 ⟨g3,q3,rfl,hown,hg,hb⟩;clear c1 z0 z2 z00 R1;have R3:Aside (w3.ownsRow (w.heap.size+1) 5 1 (.slice (some ⟨gb,0,none⟩) 1 1) 1 (z01 [80])/\Below w.heap.size w w3/\Has w3 w.heap.size #[.int .u64 (X:Int),.int .u64 (Y:Int),.slice a n c] 48/\Bytes w3 (some ⟨g3,0,none⟩) nx SX):=⟨z0m R2.out.1 hb,R2.out.2.1.trans (hb.mono R2.out.2.1.size),R2.out.2.2.keep hb,z2e hown hg HB.out.2.2.2.2.2.2.1⟩
   clear hown hg hb R2;go_wp2_with (at_builtin;refine z1k _ rfl (.tmp 20) (.tmp 23) rfl (w.heap.size+1) _ 1 [80] rfl R3.out.1 g3 0 nx q3 SX rfl R3.out.2.2.2 hn1 (by have:=HB.out;omega) R3.out.2.2.1.lt ?_;intro g4 q4 w4 hown hgrow hg;have hH:Has w4 w.heap.size #[.int .u64 (X:Int),.int .u64 (Y:Int),.slice a n c] 48:=R3.out.2.2.1.grown hgrow (fun e=>by have:=(R3.out.1.lt _ e).1;omega);have z1:w4.cell? ⟨w.heap.size,1,none⟩=some (.int .u64 (Y:Int)):=hH.cell 1)
   have R4:Aside (w4.ownsRow (w.heap.size+1) 5 1 (.slice (some ⟨g4,0,none⟩) (1+nx) q4) (1+nx) (z01 ([80] ++ SX))/\Below w.heap.size w w4/\Has w4 w.heap.size #[.int .u64 (X:Int),.int .u64 (Y:Int),.slice a n c] 48):=⟨hown,R3.out.2.1.grown hgrow R3.out.2.1.size (fun k e=>by have:=(R3.out.1.lt k e).1;omega),hH⟩
   clear hown hgrow hg hH R3 z1;refine (c2 _).mono ?_;rintro e w5 ⟨g5,q5,rfl,hown,hg,hb⟩;clear c2;have R5:Aside (w5.ownsRow (w.heap.size+1) 5 1 (.slice (some ⟨g4,0,none⟩) (1+nx) q4) (1+nx) (z01 ([80] ++ SX))/\Below w.heap.size w w5/\Has w5 w.heap.size #[.int .u64 (X:Int),.int .u64 (Y:Int),.slice a n c] 48/\Bytes w5 (some ⟨g5,0,none⟩) ny SY):=⟨z0m R4.out.1 hb,R4.out.2.1.trans (hb.mono R4.out.2.1.size),R4.out.2.2.keep hb,z2e hown hg HB.out.2.2.2.2.2.2.2⟩
   clear hown hg hb R4;go_wp2_with (at_builtin;refine z1k _ rfl (.tmp 25) (.tmp 28) rfl (w.heap.size+1) _ (1+nx) ([80] ++ SX) rfl R5.out.1 g5 0 ny q5 SY rfl R5.out.2.2.2 hn2 (by have:=HB.out;omega) R5.out.2.2.1.lt ?_;intro g6 q6 w6 hown hgrow hg;have hH:Has w6 w.heap.size #[.int .u64 (X:Int),.int .u64 (Y:Int),.slice a n c] 48:=R5.out.2.2.1.grown hgrow (fun e=>by have:=(R5.out.1.lt _ e).1;omega);have z3:w6.cell? ⟨w.heap.size,2,none⟩=some (.slice a n c):=hH.cell 2)
   have R6:Aside (w6.ownsRow (w.heap.size+1) 5 1 (.slice (some ⟨g6,0,none⟩) (1+nx+ny) q6) (1+nx+ny) (z01 ([80] ++ SX ++ SY))/\Below w.heap.size w w6/\w.heap.size+1<=w6.heap.size):=⟨hown,R5.out.2.1.grown hgrow R5.out.2.1.size (fun k e=>by have:=(R5.out.1.lt k e).1;omega),hH.lt⟩
   clear hown hgrow hg hH R5 z3;refine (zfw (w.heap.size+1) _ (1+nx+ny) ([80] ++ SX ++ SY) (by have:=HB.out;omega) a n c HB.out.2.1 l w6 R6.out.2.2 R6.out.1 (HB.out.1.below R6.out.2.1) (fun hn b o e=>by obtain ⟨b',o',e',hlt,_⟩:=HB.out.1.2.1 hn;rw [e] at e';cases e';omega)).mono ?_;rintro e w7 ⟨v',rfl,hown,hb⟩
   have R7:Aside (w7.ownsRow w.heap.size 5 1 v' (80 :: (SX ++ SY ++ l)).length (z01 (80 :: (SX ++ SY ++ l)))/\Below w.heap.size w w7):=by
    have hl:(80 :: (SX ++ SY ++ l)).length=1+nx+ny+32*n:=by
     have h1:=HB.out.1.1;have h2:=HB.out.2.2.1;have h3:=HB.out.2.2.2.1;simp only [List.length_cons,List.length_append];omega
    rw [hl];refine ⟨?_,R6.out.2.1.trans (hb.mono (Nat.le_succ _))⟩;have:=z0q hown (Nat.le_succ w.heap.size);simpa using this
   clear hown hb R6;go_wp2;go_ret2;rw [HL.out];exact ⟨v',rfl,R7.out⟩
  ·have hne':¬ (n:Int)=(np:Int):=by omega
   have HL:Aside (A=(70,[])):=by have:=HA.out;show A=_;simpa [hne] using this.symm
   clear HA hne;go_wp2;go_ret2;rw [HL.out];exact ⟨_,rfl,z3m _ _,R1.out.1⟩
 ·have hne:((E:Int) != 0)=true:=by simp [hE]
  have HL:Aside (A=(E,[])):=by have:=HA.out;show A=_;simpa [hE] using this.symm
  clear HA hE;go_wp2;go_ret2;rw [HL.out];exact ⟨_,rfl,z3m _ _,R1.out.1⟩
end Go.Proofs.YtdggkbpabjgdfaaGreatDoor
