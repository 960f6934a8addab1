/- ClashAcross: part 22. -/
import Derived.Deep.RegionLaw
import Derived.Laws.CopyOwn
import Derived.Test.YtdggkbpabjgdfaaGreatDoorClashAcrossP6
set_option maxHeartbeats 4000000
namespace Go.Proofs.YtdggkbpabjgdfaaGreatDoor
open Go.RowKit
def LG (l:List Int) (n:Nat):Nat->Nat->Int->Int × Int × Int
 | 0,_,_=>(0,0,10)
 | f+1,k,x=>if k=n then (0,0,11) else if 128<=l.getD k 0 then LG l n f (k+1) (x+l.getD k 0 % 128*128 ^ k)
   else if k=9/\1<l.getD k 0 then (0,0,10) else if l.getD k 0=0/\0<k then (0,0,12) else (x+l.getD k 0*128 ^ k,(k:Int)+1,0)
theorem zaL {l:List Int} {n f k:Nat} {x:Int} (h:k=n):LG l n (f+1) k x=(0,0,11):=by
 show (if k=n then _ else _)=_;rw [if_pos h]
theorem z8p {l:List Int} {n f k:Nat} {x:Int} (h:k≠n) (hc:128<=l.getD k 0):LG l n (f+1) k x=LG l n f (k+1) (x+l.getD k 0 % 128*128 ^ k):=by
 show (if k=n then _ else _)=_;rw [if_neg h,if_pos hc]
theorem z7I {l:List Int} {n f k:Nat} {x:Int} (h:k≠n) (hc:¬ 128<=l.getD k 0):LG l n (f+1) k x=if k=9/\1<l.getD k 0 then (0,0,10) else if l.getD k 0=0/\0<k then (0,0,12) else (x+l.getD k 0*128 ^ k,(k:Int)+1,0):=by
 show (if k=n then _ else _)=_;rw [if_neg h,if_neg hc]
theorem pow7 (k:Nat):(2:Nat) ^ (7*k)=128 ^ k:=by rw [Nat.pow_mul]
theorem z5D (L k:Nat):SHL L (7*(k:Int))=L*128 ^ k % 2 ^ 64:=by
 unfold SHL;rw [if_neg (by omega),show (7*(k:Int)).toNat=7*k by omega,pow7]
theorem zfi (L k:Nat):SHR L (7*(k:Int))=L / 128 ^ k:=by
 unfold SHR;rw [if_neg (by omega),show (7*(k:Int)).toNat=7*k by omega,pow7]
theorem z6s {L k:Nat} (hL:L<128) (hk:k<=8):L*128 ^ k % 2 ^ 64=L*128 ^ k:=by
 have h:=Nat.pow_le_pow_right (n:=128) (by decide) hk;have h2:L*128 ^ k<=127*128 ^ 8:=Nat.mul_le_mul (by omega) h;exact Nat.mod_eq_of_lt (Nat.lt_of_le_of_lt h2 (by decide))
theorem zdr {L k:Nat} (hL:L<128) (hk:k<=9):L*128 ^ k % 2 ^ 64 / 128 ^ k=if k=9 then L % 2 else L:=by
 by_cases h:k=9
 ·subst h
  rw [if_pos rfl];omega
 ·rw [if_neg h,z6s hL (by omega),Nat.mul_div_cancel _ (Nat.pow_pos (by decide))]
theorem zaM {x L k:Nat} (hx:x<128 ^ k) (hL:L<128) (hk:k<=8):bits .or .u64 (x:Int) ((L*128 ^ k % 2 ^ 64:Nat):Int)=((x+L*128 ^ k:Nat):Int):=by
 have h8:=Nat.pow_le_pow_right (n:=128) (by decide) hk;have hx2:x<2 ^ 64:=Nat.lt_of_lt_of_le hx (Nat.le_trans h8 (by decide));rw [zcz hx2 (Nat.mod_lt _ (by decide)),z6s hL hk,Nat.or_comm,nat_join (7*k) _ x (by rw [pow7];exact Nat.mul_mod_left _ _) (by rw [pow7];exact hx),Nat.add_comm]
theorem zfj {x L:Nat} (hx:x<128 ^ 9) (hL:L<2):bits .or .u64 (x:Int) ((L*128 ^ 9 % 2 ^ 64:Nat):Int)=((x+L*128 ^ 9:Nat):Int):=by
 have h1:L*128 ^ 9 % 2 ^ 64=L*128 ^ 9:=Nat.mod_eq_of_lt (by omega);rw [zcz (Nat.lt_of_lt_of_le hx (by decide)) (Nat.mod_lt _ (by decide)),h1,Nat.or_comm,nat_join (7*9) _ x (by omega) (by omega),Nat.add_comm]
def Gath (l:List Int) (n k:Nat) (y:Int) (R:Int × Int × Int):Prop:=∃ x:Nat,LG l n (10 - k) k (x:Int)=R/\(k<=9->y=(x:Int)/\x<128 ^ k)
theorem Gath.start (l:List Int) (n:Nat):Gath l n 0 0 (LG l n 10 0 0):=⟨0,rfl,fun _=>⟨rfl,by decide⟩⟩
theorem Gath.next {l:List Int} {n k:Nat} {y v p:Int} {R:Int × Int × Int} (A:Gath l n k y R) (hk:k<=9) (hkn:k≠n) (hv:l.getD k 0=v) (h0:128<=v)
  (hp:p=((SHL (v % 128).toNat (7*(k:Int)):Nat):Int)):Gath l n (k+1) (bits .or .u64 y p) R:=by
 obtain ⟨x,hx,hy⟩:=A;obtain ⟨rfl,hlt⟩:=hy hk;obtain ⟨L,hL⟩:∃ L:Nat,v % 128=(L:Int):=⟨(v % 128).toNat,by omega⟩
 rw [show 10 - k=10 - (k+1)+1 by omega,z8p hkn (by rw [hv];exact h0),hv,hL] at hx;have hL128:L<128:=by omega
 rw [hL,Int.toNat_natCast,z5D] at hp;refine ⟨x+L*128 ^ k,?_,fun h=>?_⟩
 ·rw [<-hx]
  congr 1
 ·rw [hp,zaM hlt hL128 (by omega)]
  refine ⟨rfl,?_⟩;have:L*128 ^ k<=127*128 ^ k:=Nat.mul_le_mul_right _ (by omega);rw [Nat.pow_succ];omega
theorem Gath.hit {l:List Int} {n k:Nat} {y v:Int} {R:Int × Int × Int} (A:Gath l n k y R) (hk:k<=9) (hkn:k≠n) (hv:l.getD k 0=v) (h1:¬ 128<=v):
  R=if k=9/\1<v then (0,0,10) else if v=0/\0<k then (0,0,12) else (y+v*128 ^ k,(k:Int)+1,0):=by
 obtain ⟨x,hx,hy⟩:=A;obtain ⟨rfl,hlt⟩:=hy hk;rw [show 10 - k=9 - k+1 by omega,z7I hkn (by rw [hv];exact h1),hv] at hx;exact hx.symm
theorem Gath.val {l:List Int} {n k:Nat} {y v p:Int} {R:Int × Int × Int} (A:Gath l n k y R) (hk:k<=9) (h0:0<=v) (h1:¬ 128<=v) (h9:¬ (k=9/\1<v))
  (hp:p=((SHL (v % 128).toNat (7*(k:Int)):Nat):Int)):bits .or .u64 y p=y+v*128 ^ k:=by
 obtain ⟨x,_,hy⟩:=A;obtain ⟨rfl,hlt⟩:=hy hk;obtain ⟨L,rfl⟩:∃ L:Nat,v=(L:Int):=⟨v.toNat,by omega⟩
 rw [show (((L:Int) % 128).toNat)=L by omega,z5D] at hp;by_cases h:k=9
 ·subst h
  rw [hp,zfj hlt (by omega)];simp
 ·rw [hp,zaM hlt (by omega) (by omega)]
  simp
theorem z8q {v p q:Int} {k:Nat} (hk:k<=9) (h0:0<=v) (h1:¬ 128<=v) (hp:p=((SHL (v % 128).toNat (7*(k:Int)):Nat):Int)) (hq:q=((SHR p.toNat (7*(k:Int)):Nat):Int)):
  (q != v % 128)=decide (k=9/\1<v):=by
 obtain ⟨L,rfl⟩:∃ L:Nat,v=(L:Int):=⟨v.toNat,by omega⟩
 rw [show (((L:Int) % 128).toNat)=L by omega,z5D] at hp;rw [hp,Int.toNat_natCast,zfi,zdr (by omega) hk] at hq;rw [hq,Bool.eq_iff_iff,bne_iff_ne,decide_eq_true_iff];split <;> omega
theorem zds (b off n c:Nat) (l:List Int) (R:Int × Int × Int) (r1 r2 r3:Int) (hR:Aside (LG l n 10 0 0=R/\R=(r1,r2,r3))) (w:World) (hB:Bytes w (some ⟨b,off,none⟩) n l) (h0:0<n) (hn:(n:Int)<10) (hcap:(n:Int)<=(c:Int)) (hmax:n<=140737488355328):
    Calls Tryz.prog 126 #[.slice (some ⟨b,off,none⟩) n c] w fun e w'=>e=.returned (.tuple #[.int .u64 r1,.int .i64 r2,.int .i64 r3])/\w=w':=by
  obtain ⟨b',off',e,_,hc0⟩:=hB.2.1 h0;simp only [Option.some.injEq,Addr.mk.injEq] at e;obtain ⟨rfl,rfl,_⟩:=e;have HC:Aside ((∀ i,i<n->w.cell? ⟨b,off+i,none⟩=some (.int .u8 (l.getD i 0)))/\∀ i,0<=l.getD i 0/\l.getD i 0<=255):=⟨hc0,hB.get⟩
  have hcap0:0<(c:Int):=by omega
  clear hB hc0;go_enter Tryz.func126,Tryz.ntmps126;go_wp2;go_loop [5,16] (fun s5 s16=>∃ (k:Nat) (y:Int),(k:Int)<=(n:Int)/\Aside (Gath l n k y R)/\s5=.int .u64 y/\s16=.int .i64 k) (fun _ i=>n - (intOf i).toNat)
  case atStart=>exact ⟨0,0,by omega,hR.out.1 ▸ Gath.start l n,rfl,rfl⟩
  case round=>
    obtain ⟨k,y,hk,A,rfl,rfl⟩:=hrel;by_cases hlt:(k:Int)<(n:Int)
    · have hc := HC.out.1 k (by omega)
      have hcb:=HC.out.2 k;generalize hv:l.getD k 0=v at hc hcb;have Hv:Aside (l.getD k 0=v):=hv;clear hv;have hv0:=hcb.1;have hv1:=hcb.2;clear hcb;obtain ⟨p,hp⟩:∃ p:Int,p=((SHL (v % 128).toNat (7*(k:Int)):Nat):Int):=⟨_,rfl⟩
      have hpl:0<=p/\p<2 ^ 64:=by
        have:=z9K (show (v % 128).toNat<2 ^ 64 by omega) (7*(k:Int));omega
      have c1:∀ w,Calls Tryz.prog 144 #[.int .u64 (v % 128),.int .i64 (7*(k:Int))] w fun e w'=>e=.returned (.int .u64 p)/\w=w':=fun w=>by
        have h:=z9Q (v % 128).toNat (7*(k:Int)) (by omega) (by omega) (by omega) w;rw [<-hp,Int.toNat_of_nonneg (by omega)] at h;exact h
      by_cases h128:128<=v
      · have HP:Aside (p=((SHL (v % 128).toNat (7*(k:Int)):Nat):Int)):=hp
        clear hp hpl;go_wp2_with fail
        refine (c1 _).mono ?_;rintro e w' ⟨rfl,rfl⟩;go_wp2;go_round
        case rel=>exact ⟨k+1,_,by omega,A.out.next (by omega) (by omega) Hv.out h128 HP.out,rfl,by go_num⟩
        case measure=>simp [intOf];omega
      · obtain ⟨q,hq⟩:∃ q:Int,q=((SHR p.toNat (7*(k:Int)):Nat):Int):=⟨_,rfl⟩
        have c2:∀ w,Calls Tryz.prog 145 #[.int .u64 p,.int .i64 (7*(k:Int))] w fun e w'=>e=.returned (.int .u64 q)/\w=w':=fun w=>by
          have h:=z38 p.toNat (7*(k:Int)) (by omega) (by omega) (by omega) w;rw [<-hq,Int.toNat_of_nonneg hpl.1] at h;exact h
        have hs:=z8q (show k<=9 by omega) hv0 h128 hp hq;have hit:=A.out.hit (by omega) (by omega) Hv.out h128;rw [hR.out.2] at hit;have hval:=fun h9=>A.out.val (by omega) hv0 h128 h9 hp;clear hp hpl hq;by_cases hr:k=9/\1<v
        · rw [if_pos hr] at hit
          simp only [Prod.mk.injEq] at hit;obtain ⟨rfl,rfl,rfl⟩:=hit;have hs':(q != v % 128)=true:=by rw [hs];simp [hr]
          clear hs hval hr;go_wp2_with fail
          refine (c1 _).mono ?_;rintro e w' ⟨rfl,rfl⟩;go_wp2_with fail
          refine (c2 _).mono ?_;rintro e w' ⟨rfl,rfl⟩;go_wp2;go_ret3
          exact ⟨rfl,rfl⟩
        · rw [if_neg hr] at hit
          have hs':(q != v % 128)=false:=by rw [hs];simp only [decide_eq_false_iff_not];exact hr
          have hval':=hval hr;clear hs hval hr;by_cases hz:v=0/\0<k
          · rw [if_pos hz] at hit
            simp only [Prod.mk.injEq] at hit;obtain ⟨rfl,rfl,rfl⟩:=hit;obtain ⟨rfl,hk0⟩:=hz;have hk0':0<(k:Int):=by omega
            clear hval';go_wp2_with fail
            refine (c1 _).mono ?_;rintro e w' ⟨rfl,rfl⟩;go_wp2_with fail
            refine (c2 _).mono ?_;rintro e w' ⟨rfl,rfl⟩;go_wp2;go_ret3
            exact ⟨rfl,rfl⟩
          · rw [if_neg hz] at hit
            simp only [Prod.mk.injEq] at hit;obtain ⟨e1,rfl,rfl⟩:=hit;rw [<-e1] at hval';have HE:Aside (bits .or .u64 y p=r1):=hval';clear hval' e1;by_cases hv00:v=0
            · have hk0:¬ 0<(k:Int):=by omega
              have hvb:(v == 0)=true:=by simp [hv00]
              clear hz hv00;go_wp2_with fail
              refine (c1 _).mono ?_;rintro e w' ⟨rfl,rfl⟩;go_wp2_with fail
              refine (c2 _).mono ?_;rintro e w' ⟨rfl,rfl⟩;go_wp2;go_ret3
              exact ⟨by rw [<-HE.out];rfl,rfl⟩
            · have hvb:(v == 0)=false:=by simp [hv00]
              clear hz hv00;go_wp2_with fail
              refine (c1 _).mono ?_;rintro e w' ⟨rfl,rfl⟩;go_wp2_with fail
              refine (c2 _).mono ?_;rintro e w' ⟨rfl,rfl⟩;go_wp2;go_ret3
              exact ⟨by rw [<-HE.out];rfl,rfl⟩
    · have hk':k=n:=by omega
      subst hk';have hit:=A.out;obtain ⟨x,hx,_⟩:=hit;rw [show 10 - k=9 - k+1 by omega,zaL rfl,hR.out.2] at hx;simp only [Prod.mk.injEq] at hx;obtain ⟨rfl,rfl,rfl⟩:=hx;clear A;go_wp2;go_ret3
      exact ⟨rfl,rfl⟩
theorem zfk (b off n c:Nat) (l:List Int) (R:Int × Int × Int) (r1 r2 r3:Int) (hR:Aside (LG l n 10 0 0=R/\R=(r1,r2,r3))) (w:World) (hB:Bytes w (some ⟨b,off,none⟩) n l) (h0:0<n) (hn:10<(n:Int)) (hcap:(n:Int)<=(c:Int)) (hmax:n<=140737488355328):
    Calls Tryz.prog 126 #[.slice (some ⟨b,off,none⟩) n c] w fun e w'=>e=.returned (.tuple #[.int .u64 r1,.int .i64 r2,.int .i64 r3])/\w=w':=by
  obtain ⟨b',off',e,_,hc0⟩:=hB.2.1 h0;simp only [Option.some.injEq,Addr.mk.injEq] at e;obtain ⟨rfl,rfl,_⟩:=e;have HC:Aside ((∀ i,i<n->w.cell? ⟨b,off+i,none⟩=some (.int .u8 (l.getD i 0)))/\∀ i,0<=l.getD i 0/\l.getD i 0<=255):=⟨hc0,hB.get⟩
  have hcap0:0<(c:Int):=by omega
  have h10c:(10:Int)<=(c:Int):=by omega
  clear hB hc0;go_enter Tryz.func126,Tryz.ntmps126;go_wp2;go_loop [5,16] (fun s5 s16=>∃ (k:Nat) (y:Int),(k:Int)<=10/\Aside (Gath l n k y R)/\s5=.int .u64 y/\s16=.int .i64 k) (fun _ i=>10 - (intOf i).toNat)
  case atStart=>exact ⟨0,0,by omega,hR.out.1 ▸ Gath.start l n,rfl,rfl⟩
  case round=>
    obtain ⟨k,y,hk,A,rfl,rfl⟩:=hrel;by_cases hlt:(k:Int)<10
    · have hc := HC.out.1 k (by omega)
      have hcb:=HC.out.2 k;generalize hv:l.getD k 0=v at hc hcb;have Hv:Aside (l.getD k 0=v):=hv;clear hv;have hv0:=hcb.1;have hv1:=hcb.2;clear hcb;obtain ⟨p,hp⟩:∃ p:Int,p=((SHL (v % 128).toNat (7*(k:Int)):Nat):Int):=⟨_,rfl⟩
      have hpl:0<=p/\p<2 ^ 64:=by
        have:=z9K (show (v % 128).toNat<2 ^ 64 by omega) (7*(k:Int));omega
      have c1:∀ w,Calls Tryz.prog 144 #[.int .u64 (v % 128),.int .i64 (7*(k:Int))] w fun e w'=>e=.returned (.int .u64 p)/\w=w':=fun w=>by
        have h:=z9Q (v % 128).toNat (7*(k:Int)) (by omega) (by omega) (by omega) w;rw [<-hp,Int.toNat_of_nonneg (by omega)] at h;exact h
      by_cases h128:128<=v
      · have HP:Aside (p=((SHL (v % 128).toNat (7*(k:Int)):Nat):Int)):=hp
        clear hp hpl;go_wp2_with fail
        refine (c1 _).mono ?_;rintro e w' ⟨rfl,rfl⟩;go_wp2;go_round
        case rel=>exact ⟨k+1,_,by omega,A.out.next (by omega) (by omega) Hv.out h128 HP.out,rfl,by go_num⟩
        case measure=>simp [intOf];omega
      · obtain ⟨q,hq⟩:∃ q:Int,q=((SHR p.toNat (7*(k:Int)):Nat):Int):=⟨_,rfl⟩
        have c2:∀ w,Calls Tryz.prog 145 #[.int .u64 p,.int .i64 (7*(k:Int))] w fun e w'=>e=.returned (.int .u64 q)/\w=w':=fun w=>by
          have h:=z38 p.toNat (7*(k:Int)) (by omega) (by omega) (by omega) w;rw [<-hq,Int.toNat_of_nonneg hpl.1] at h;exact h
        have hs:=z8q (show k<=9 by omega) hv0 h128 hp hq;have hit:=A.out.hit (by omega) (by omega) Hv.out h128;rw [hR.out.2] at hit;have hval:=fun h9=>A.out.val (by omega) hv0 h128 h9 hp;clear hp hpl hq;by_cases hr:k=9/\1<v
        · rw [if_pos hr] at hit
          simp only [Prod.mk.injEq] at hit;obtain ⟨rfl,rfl,rfl⟩:=hit;have hs':(q != v % 128)=true:=by rw [hs];simp [hr]
          clear hs hval hr;go_wp2_with fail
          refine (c1 _).mono ?_;rintro e w' ⟨rfl,rfl⟩;go_wp2_with fail
          refine (c2 _).mono ?_;rintro e w' ⟨rfl,rfl⟩;go_wp2;go_ret3
          exact ⟨rfl,rfl⟩
        · rw [if_neg hr] at hit
          have hs':(q != v % 128)=false:=by rw [hs];simp only [decide_eq_false_iff_not];exact hr
          have hval':=hval hr;clear hs hval hr;by_cases hz:v=0/\0<k
          · rw [if_pos hz] at hit
            simp only [Prod.mk.injEq] at hit;obtain ⟨rfl,rfl,rfl⟩:=hit;obtain ⟨rfl,hk0⟩:=hz;have hk0':0<(k:Int):=by omega
            clear hval';go_wp2_with fail
            refine (c1 _).mono ?_;rintro e w' ⟨rfl,rfl⟩;go_wp2_with fail
            refine (c2 _).mono ?_;rintro e w' ⟨rfl,rfl⟩;go_wp2;go_ret3
            exact ⟨rfl,rfl⟩
          · rw [if_neg hz] at hit
            simp only [Prod.mk.injEq] at hit;obtain ⟨e1,rfl,rfl⟩:=hit;rw [<-e1] at hval';have HE:Aside (bits .or .u64 y p=r1):=hval';clear hval' e1;by_cases hv00:v=0
            · have hk0:¬ 0<(k:Int):=by omega
              have hvb:(v == 0)=true:=by simp [hv00]
              clear hz hv00;go_wp2_with fail
              refine (c1 _).mono ?_;rintro e w' ⟨rfl,rfl⟩;go_wp2_with fail
              refine (c2 _).mono ?_;rintro e w' ⟨rfl,rfl⟩;go_wp2;go_ret3
              exact ⟨by rw [<-HE.out];rfl,rfl⟩
            · have hvb:(v == 0)=false:=by simp [hv00]
              clear hz hv00;go_wp2_with fail
              refine (c1 _).mono ?_;rintro e w' ⟨rfl,rfl⟩;go_wp2_with fail
              refine (c2 _).mono ?_;rintro e w' ⟨rfl,rfl⟩;go_wp2;go_ret3
              exact ⟨by rw [<-HE.out];rfl,rfl⟩
    · have hk':k=10:=by omega
      subst hk';have hit:=A.out;obtain ⟨x,hx,_⟩:=hit;rw [show 10 - 10=0 by omega,hR.out.2] at hx;have hx:(0,0,10)=(r1,r2,r3):=hx;simp only [Prod.mk.injEq] at hx;obtain ⟨rfl,rfl,rfl⟩:=hx;clear A;go_wp2;go_ret3
      exact ⟨rfl,rfl⟩
theorem zh5 (b off c:Nat) (l:List Int) (R:Int × Int × Int) (r1 r2 r3:Int) (hR:Aside (LG l 10 10 0 0=R/\R=(r1,r2,r3))) (w:World) (hB:Bytes w (some ⟨b,off,none⟩) 10 l) (hcap:(10:Int)<=(c:Int)):
    Calls Tryz.prog 126 #[.slice (some ⟨b,off,none⟩) 10 c] w fun e w'=>e=.returned (.tuple #[.int .u64 r1,.int .i64 r2,.int .i64 r3])/\w=w':=by
  obtain ⟨b',off',e,_,hc0⟩:=hB.2.1 (by decide);simp only [Option.some.injEq,Addr.mk.injEq] at e;obtain ⟨rfl,rfl,_⟩:=e;have HC:Aside ((∀ i,i<10->w.cell? ⟨b,off+i,none⟩=some (.int .u8 (l.getD i 0)))/\∀ i,0<=l.getD i 0/\l.getD i 0<=255):=⟨hc0,hB.get⟩
  have hcap0:0<(c:Int):=by omega
  clear hB hc0;go_enter Tryz.func126,Tryz.ntmps126;go_wp2;go_loop [5,16] (fun s5 s16=>∃ (k:Nat) (y:Int),(k:Int)<=10/\Aside (Gath l 10 k y R)/\s5=.int .u64 y/\s16=.int .i64 k) (fun _ i=>10 - (intOf i).toNat)
  case atStart=>exact ⟨0,0,by omega,hR.out.1 ▸ Gath.start l 10,rfl,rfl⟩
  case round=>
    obtain ⟨k,y,hk,A,rfl,rfl⟩:=hrel;by_cases hlt:(k:Int)<10
    · have hc := HC.out.1 k (by omega)
      have hcb:=HC.out.2 k;generalize hv:l.getD k 0=v at hc hcb;have Hv:Aside (l.getD k 0=v):=hv;clear hv;have hv0:=hcb.1;have hv1:=hcb.2;clear hcb;obtain ⟨p,hp⟩:∃ p:Int,p=((SHL (v % 128).toNat (7*(k:Int)):Nat):Int):=⟨_,rfl⟩
      have hpl:0<=p/\p<2 ^ 64:=by
        have:=z9K (show (v % 128).toNat<2 ^ 64 by omega) (7*(k:Int));omega
      have c1:∀ w,Calls Tryz.prog 144 #[.int .u64 (v % 128),.int .i64 (7*(k:Int))] w fun e w'=>e=.returned (.int .u64 p)/\w=w':=fun w=>by
        have h:=z9Q (v % 128).toNat (7*(k:Int)) (by omega) (by omega) (by omega) w;rw [<-hp,Int.toNat_of_nonneg (by omega)] at h;exact h
      by_cases h128:128<=v
      · have HP:Aside (p=((SHL (v % 128).toNat (7*(k:Int)):Nat):Int)):=hp
        clear hp hpl;go_wp2_with fail
        refine (c1 _).mono ?_;rintro e w' ⟨rfl,rfl⟩;go_wp2;go_round
        case rel=>exact ⟨k+1,_,by omega,A.out.next (by omega) (by omega) Hv.out h128 HP.out,rfl,by go_num⟩
        case measure=>simp [intOf];omega
      · obtain ⟨q,hq⟩:∃ q:Int,q=((SHR p.toNat (7*(k:Int)):Nat):Int):=⟨_,rfl⟩
        have c2:∀ w,Calls Tryz.prog 145 #[.int .u64 p,.int .i64 (7*(k:Int))] w fun e w'=>e=.returned (.int .u64 q)/\w=w':=fun w=>by
          have h:=z38 p.toNat (7*(k:Int)) (by omega) (by omega) (by omega) w;rw [<-hq,Int.toNat_of_nonneg hpl.1] at h;exact h
        have hs:=z8q (show k<=9 by omega) hv0 h128 hp hq;have hit:=A.out.hit (by omega) (by omega) Hv.out h128;rw [hR.out.2] at hit;have hval:=fun h9=>A.out.val (by omega) hv0 h128 h9 hp;clear hp hpl hq;by_cases hr:k=9/\1<v
        · rw [if_pos hr] at hit
          simp only [Prod.mk.injEq] at hit;obtain ⟨rfl,rfl,rfl⟩:=hit;have hs':(q != v % 128)=true:=by rw [hs];simp [hr]
          clear hs hval hr;go_wp2_with fail
          refine (c1 _).mono ?_;rintro e w' ⟨rfl,rfl⟩;go_wp2_with fail
          refine (c2 _).mono ?_;rintro e w' ⟨rfl,rfl⟩;go_wp2;go_ret3
          exact ⟨rfl,rfl⟩
        · rw [if_neg hr] at hit
          have hs':(q != v % 128)=false:=by rw [hs];simp only [decide_eq_false_iff_not];exact hr
          have hval':=hval hr;clear hs hval hr;by_cases hz:v=0/\0<k
          · rw [if_pos hz] at hit
            simp only [Prod.mk.injEq] at hit;obtain ⟨rfl,rfl,rfl⟩:=hit;obtain ⟨rfl,hk0⟩:=hz;have hk0':0<(k:Int):=by omega
            clear hval';go_wp2_with fail
            refine (c1 _).mono ?_;rintro e w' ⟨rfl,rfl⟩;go_wp2_with fail
            refine (c2 _).mono ?_;rintro e w' ⟨rfl,rfl⟩;go_wp2;go_ret3
            exact ⟨rfl,rfl⟩
          · rw [if_neg hz] at hit
            simp only [Prod.mk.injEq] at hit;obtain ⟨e1,rfl,rfl⟩:=hit;rw [<-e1] at hval';have HE:Aside (bits .or .u64 y p=r1):=hval';clear hval' e1;by_cases hv00:v=0
            · have hk0:¬ 0<(k:Int):=by omega
              have hvb:(v == 0)=true:=by simp [hv00]
              clear hz hv00;go_wp2_with fail
              refine (c1 _).mono ?_;rintro e w' ⟨rfl,rfl⟩;go_wp2_with fail
              refine (c2 _).mono ?_;rintro e w' ⟨rfl,rfl⟩;go_wp2;go_ret3
              exact ⟨by rw [<-HE.out];rfl,rfl⟩
            · have hvb:(v == 0)=false:=by simp [hv00]
              clear hz hv00;go_wp2_with fail
              refine (c1 _).mono ?_;rintro e w' ⟨rfl,rfl⟩;go_wp2_with fail
              refine (c2 _).mono ?_;rintro e w' ⟨rfl,rfl⟩;go_wp2;go_ret3
              exact ⟨by rw [<-HE.out];rfl,rfl⟩
    · have hk':k=10:=by omega
      subst hk';have hit:=A.out;obtain ⟨x,hx,_⟩:=hit;rw [show 10 - 10=0 by omega,hR.out.2] at hx;have hx:(0,0,10)=(r1,r2,r3):=hx;simp only [Prod.mk.injEq] at hx;obtain ⟨rfl,rfl,rfl⟩:=hx;clear A;go_wp2;go_ret3
      exact ⟨rfl,rfl⟩
theorem zdt (a:Option Addr) (c:Nat) (w:World):Calls Tryz.prog 126 #[.slice a 0 c] w fun e w'=>e=.returned (.tuple #[.int .u64 0,.int .i64 0,.int .i64 11])/\w=w':=by
 go_enter Tryz.func126,Tryz.ntmps126;go_wp2;refine wp_loop_rounds 1 ?_;rw [rounds_succ];go_wp2;go_ret3
 exact ⟨rfl,rfl⟩
theorem z8r (a:Option Addr) (n c:Nat) (l:List Int) (w:World) (hB:Bytes w a n l) (hcap:n<=c) (hmax:n<=140737488355328):
  Calls Tryz.prog 126 #[.slice a n c] w fun e w'=>e=.returned (.tuple #[.int .u64 (LG l n 10 0 0).1,.int .i64 (LG l n 10 0 0).2.1,.int .i64 (LG l n 10 0 0).2.2])/\w=w':=by
 rcases Nat.eq_zero_or_pos n with h | h
 ·subst h
  exact zdt a c w
 ·obtain ⟨b,off,rfl,_,_⟩:=hB.2.1 h
  by_cases h10:(n:Int)<10
  ·exact zds b off n c l _ _ _ _ ⟨rfl,rfl⟩ w hB h h10 (by omega) hmax
  ·by_cases h10':n=10
   ·subst h10'
    exact zh5 b off c l _ _ _ _ ⟨rfl,rfl⟩ w hB (by omega)
   ·exact zfk b off n c l _ _ _ _ ⟨rfl,rfl⟩ w hB h (by omega) (by omega) hmax
def VAL (d:Nat->Nat):Nat->Nat
 | 0=>0
 | m+1=>VAL d m+d m*128 ^ m
theorem z5E {d:Nat->Nat} (hd:∀ i,d i<128):∀ m,VAL d m<128 ^ m
 | 0=>by simp [VAL]
 | m+1=>by
   have:=z5E hd m;have h2:d m*128 ^ m<=127*128 ^ m:=Nat.mul_le_mul_right _ (by have:=hd m;omega);simp only [VAL,Nat.pow_succ];omega
theorem z96 {d:Nat->Nat} (hd:∀ i,d i<128):∀ (m t i:Nat),i<m->(VAL d m+t*128 ^ m) / 128 ^ i % 128=d i
 | 0,_,_,h=>by omega
 | m + 1,t,i,h=>by
   have e:VAL d (m+1)+t*128 ^ (m+1)=VAL d m+(d m+t*128)*128 ^ m:=by
    simp only [VAL];rw [Nat.add_mul,Nat.pow_succ,Nat.mul_assoc,Nat.mul_comm 128,<-Nat.add_assoc]
   rw [e];by_cases hi:i=m
   ·subst hi
    rw [Nat.add_mul_div_right _ _ (Nat.pow_pos (by decide)),Nat.div_eq_of_lt (z5E hd i)];have:=hd i;omega
   ·exact z96 hd m _ i (by omega)
theorem zid {d:Nat->Nat} (hd:∀ i,d i<128) (m t:Nat):(VAL d m+t*128 ^ m) / 128 ^ m=t:=by
 rw [Nat.add_mul_div_right _ _ (Nat.pow_pos (by decide)),Nat.div_eq_of_lt (z5E hd m),Nat.zero_add]
theorem zcr (X:Nat):∀ m,VAL (fun i=>X / 128 ^ i % 128) m=X % 128 ^ m
 | 0=>by simp [VAL,Nat.mod_one]
 | m+1=>by rw [VAL,zcr X m,Nat.mod_pow_succ,Nat.mul_comm]
theorem z97 {d e:Nat->Nat}:∀ m,(∀ i,i<m->d i=e i)->VAL d m=VAL e m
 | 0,_=>rfl
 | m+1,h=>by rw [VAL,VAL,z97 m (fun i hi=>h i (by omega)),h m (by omega)]
def DIG (l:List Int):Nat->Nat:=fun i=>(l.getD i 0 % 128).toNat
theorem zaN (l:List Int) (i:Nat):DIG l i<128:=by unfold DIG;omega
theorem z5F {l:List Int} {n:Nat}:∀ (m f:Nat),(∀ i,i<m->128<=l.getD i 0)->(∀ i,i<m->i≠n)->LG l n (f+m) 0 0=LG l n f m (VAL (DIG l) m:Nat)
 | 0,f,_,_=>rfl
 | m+1,f,h,hn=>by
   rw [show f+(m+1)=f+1+m by omega,z5F m (f+1) (fun i hi=>h i (by omega)) (fun i hi=>hn i (by omega)),z8p (hn m (by omega)) (h m (by omega))];congr 1
   simp only [VAL,DIG];rw [Int.natCast_add,Int.natCast_mul,Int.natCast_pow,Int.toNat_of_nonneg (by omega)];rfl
theorem zaO {l:List Int} {n:Nat}:∀ (f k:Nat) (x:Int),k<=n->(LG l n f k x).2.2=0->∃ m,k<=m/\m<k+f/\m<n/\(∀ i,k<=i->i<m->128<=l.getD i 0)/\¬ 128<=l.getD m 0/\¬ (m=9/\1<l.getD m 0)/\¬ (l.getD m 0=0/\0<m)
 | 0,k,x,_,h=>by simp [LG] at h
 | f + 1,k,x,hkn,h=>by
   by_cases h1:k=n
   ·rw [zaL h1] at h
    simp at h
   ·by_cases h2:128<=l.getD k 0
    ·rw [z8p h1 h2] at h
     obtain ⟨m,a,b,c,d,e,g,i⟩:=zaO f (k+1) _ (by omega) h;refine ⟨m,by omega,by omega,c,fun j hj1 hj2=>?_,e,g,i⟩;by_cases hj:j=k
     ·rw [hj];exact h2
     ·exact d j (by omega) hj2
    ·rw [z7I h1 h2] at h
     by_cases h3:k=9/\1<l.getD k 0
     ·rw [if_pos h3] at h
      simp at h
     ·rw [if_neg h3] at h
      by_cases h4:l.getD k 0=0/\0<k
      ·rw [if_pos h4] at h
       simp at h
      ·exact ⟨k,Nat.le_refl _,by omega,by omega,fun j hj1 hj2=>by omega,h2,h3,h4⟩
theorem zhs {l:List Int} {n m:Nat} (hm:m<=9) (hmn:m<n) (h:∀ i,i<m->128<=l.getD i 0) (h1:¬ 128<=l.getD m 0) (h2:¬ (m=9/\1<l.getD m 0)) (h3:¬ (l.getD m 0=0/\0<m)):
  LG l n 10 0 0=((VAL (DIG l) m:Nat)+l.getD m 0*128 ^ m,(m:Int)+1,0):=by
 rw [show 10=9 - m+1+m by omega,z5F m (9 - m+1) h (fun i hi=>by omega),z7I (by omega) h1,if_neg h2,if_neg h3]
theorem z98 {a b:List Int} {i:Nat} (h:i<a.length):(a ++ b).getD i 0=a.getD i 0:=by
 rw [List.getD_eq_getElem?_getD,List.getElem?_append_left h,<-List.getD_eq_getElem?_getD]
theorem z99 {X i:Nat} (h:i<NTOP X):(z0s X).getD i 0=((X / 128 ^ i % 128+128:Nat):Int):=by
 unfold z0s;rw [z98 (by rw [z2t];exact h),List.getD_eq_getElem?_getD];simp [z1z,h]
theorem z7J (X:Nat):(z0s X).getD (NTOP X) 0=((X / 128 ^ NTOP X:Nat):Int):=by
 unfold z0s;rw [List.getD_eq_getElem?_getD,List.getElem?_append_right (by rw [z2t];exact Nat.le_refl _),z2t];simp
theorem zh6 {X:Nat} (hX:X<2 ^ 64) (more:List Int) (n:Nat) (hn:n=NTOP X+1+more.length):LG (z0s X ++ more) n 10 0 0=((X:Int),(NTOP X:Int)+1,0):=by
 have hlen:=z0Y X;have hget:∀ i,i<=NTOP X->(z0s X ++ more).getD i 0=(z0s X).getD i 0:=fun i hi=>z98 (by omega);have htop:=hget (NTOP X) (Nat.le_refl _);rw [z7J] at htop;have hlow:∀ i,i<NTOP X->(z0s X ++ more).getD i 0=((X / 128 ^ i % 128+128:Nat):Int):=fun i hi=>by rw [hget i (by omega),z99 hi]
 have h128:=z89 hX;have h9:NTOP X=9->X / 128 ^ NTOP X<2:=fun h=>by rw [h];exact Nat.div_lt_of_lt_mul (Nat.lt_of_lt_of_le hX (by decide))
 have hpos:0<NTOP X->1<=X / 128 ^ NTOP X:=fun h=>by
  have:=z4z 9 X (NTOP X - 1) (by show NTOP X - 1<NTOP X;omega);rw [show NTOP X=NTOP X - 1+1 by omega,Nat.pow_succ,<-Nat.div_div_eq_div_mul];omega
 have hv:VAL (DIG (z0s X ++ more)) (NTOP X)=X % 128 ^ NTOP X:=by
  rw [<-zcr];refine z97 _ fun i hi=>?_;unfold DIG;rw [hlow i hi];omega
 rw [zhs (z4k X) (by omega) (fun i hi=>by rw [hlow i hi];omega) (by rw [htop];omega) (by rw [htop];omega) (by rw [htop];omega),htop,hv];have:=Nat.mod_add_div X (128 ^ NTOP X);rw [Nat.mul_comm] at this
 have e:(((X % 128 ^ NTOP X:Nat):Int)+((X / 128 ^ NTOP X:Nat):Int)*128 ^ NTOP X)=(X:Int):=by
  have h2:((X % 128 ^ NTOP X+X / 128 ^ NTOP X*128 ^ NTOP X:Nat):Int)=(X:Int):=by rw [this]
  rw [<-h2,Int.natCast_add,Int.natCast_mul,Int.natCast_pow];rfl
 rw [e]
theorem zie {l:List Int} {n:Nat} (hl:l.length=n) (hr:∀ i,0<=l.getD i 0/\l.getD i 0<=255) (h:(LG l n 10 0 0).2.2=0):
  ∃ Z m:Nat,Z<2 ^ 64/\m<n/\m<=9/\LG l n 10 0 0=((Z:Int),(m:Int)+1,0)/\NTOP Z=m/\z0s Z=l.take (m+1):=by
 obtain ⟨m,_,hm,hmn,hlow,h1,h2,h3⟩:=zaO 10 0 0 (by omega) h;have hlow':∀ i,i<m->128<=l.getD i 0:=fun i hi=>hlow i (by omega) hi;have hat:=zhs (show m<=9 by omega) hmn hlow' h1 h2 h3;obtain ⟨t,ht⟩:∃ t:Nat,l.getD m 0=(t:Int):=⟨(l.getD m 0).toNat,by have:=hr m;omega⟩
 have hd:=zaN l;have hvl:=z5E hd m;obtain ⟨Z,hZ⟩:∃ Z:Nat,Z=VAL (DIG l) m+t*128 ^ m:=⟨_,rfl⟩
 have hZ64:Z<2 ^ 64:=by
  by_cases h9:m=9
  ·subst h9
   omega
  ·have h8:=Nat.pow_le_pow_right (n:=128) (by decide) (show m<=8 by omega)
   have h5:t*128 ^ m<=127*128 ^ 8:=Nat.mul_le_mul (by omega) h8;omega
 have htop:Z / 128 ^ m=t:=by rw [hZ,zid hd]
 have hdig:∀ i,i<m->Z / 128 ^ i % 128=DIG l i:=fun i hi=>by rw [hZ,z96 hd m t i hi]
 have hN:NTOP Z=m:=by
  refine zc8 hZ64 (fun i hi=>?_) (by rw [htop];omega);have ht1:1<=t:=by omega
  have h6:Z / 128 ^ i / 128 ^ (m - i)=t:=by rw [Nat.div_div_eq_div_mul,<-Nat.pow_add,show i+(m - i)=m by omega,htop]
  have h7:128 ^ (m - i)<=Z / 128 ^ i:=by
   rcases Nat.lt_or_ge (Z / 128 ^ i) (128 ^ (m - i)) with h8 | h8
   ·rw [Nat.div_eq_of_lt h8] at h6
    omega
   ·exact h8
  have h8:=Nat.pow_le_pow_right (n:=128) (by decide) (show 1<=m - i by omega);omega
 refine ⟨Z,m,hZ64,hmn,by omega,?_,hN,?_⟩
 ·rw [hat,ht,hZ,Int.natCast_add,Int.natCast_mul,Int.natCast_pow]
  rfl
 ·apply List.ext_getElem?
  intro i;by_cases hi:i<m+1
  ·rw [List.getElem?_take_of_lt hi]
   have e1:(z0s Z)[i]?=some ((z0s Z).getD i 0):=by
    rw [List.getD_eq_getElem?_getD,List.getElem?_eq_getElem (by rw [z0Y,hN];exact hi)];rfl
   have e2:l[i]?=some (l.getD i 0):=by
    rw [List.getD_eq_getElem?_getD,List.getElem?_eq_getElem (by omega)];rfl
   rw [e1,e2];congr 1
   by_cases him:i=m
   ·subst him
    rw [<-hN,z7J,hN,htop,ht]
   ·rw [z99 (by omega),hdig i (by omega)]
    have:=hlow' i (by omega);have:=hr i;unfold DIG;omega
  ·rw [List.getElem?_eq_none (by rw [z0Y,hN];omega),List.getElem?_eq_none (by rw [List.length_take];omega)]
end Go.Proofs.YtdggkbpabjgdfaaGreatDoor
namespace Go.Proofs.YtdggkbpabjgdfaaGreatDoor
open Go.RowKit
set_option maxRecDepth 100000
theorem Bytes.rest {w:World} {b off n:Nat} {l:List Int} (h:Bytes w (some ⟨b,off,none⟩) n l) (k:Nat) (hk:k<=n):Bytes w (some ⟨b,off+k,none⟩) (n - k) (l.drop k):=by
 refine ⟨by rw [List.length_drop,h.1],fun hn=>?_,fun x hx=>h.2.2 x (List.mem_of_mem_drop hx)⟩;obtain ⟨b',o',e,hl,hc⟩:=h.2.1 (by omega);simp only [Option.some.injEq,Addr.mk.injEq] at e;obtain ⟨rfl,rfl,_⟩:=e;refine ⟨b,off+k,rfl,hl,fun i hi=>?_⟩;rw [show off+k+i=off+(k+i) by omega,hc (k+i) (by omega)];congr 2
 rw [List.getD_eq_getElem?_getD,List.getD_eq_getElem?_getD,List.getElem?_drop]
theorem zfl (rb:Nat) (k:Int) (a:Option Addr) (c:Nat) (w:World) (h0:w.cell? ⟨rb,0,none⟩=some (.slice a 0 c)):
  Calls Tryz.prog 98 #[.pointer (some ⟨rb,0,none⟩),.int .u8 k] w fun e w'=>e=.returned (.int .i64 11)/\w=w':=by
 go_enter Tryz.func98,Tryz.ntmps98;go_wp2;go_ret;exact ⟨rfl,rfl⟩
theorem zdu (rb:Nat) (k x:Int) (b off n c:Nat) (w:World) (hx:¬ x=k) (hn:¬ (n:Int)=0) (h0:w.cell? ⟨rb,0,none⟩=some (.slice (some ⟨b,off,none⟩) n c)) (hc:w.cell? ⟨b,off,none⟩=some (.int .u8 x)):
  Calls Tryz.prog 98 #[.pointer (some ⟨rb,0,none⟩),.int .u8 k] w fun e w'=>e=.returned (.int .i64 14)/\w=w':=by
 have hn1:(0:Int)<(n:Int):=by omega
 have hn2:0<n:=by omega
 go_enter Tryz.func98,Tryz.ntmps98;go_wp2;go_ret;exact ⟨rfl,rfl⟩
def REST (b off c k:Nat):Option Addr:=if c=k then some ⟨b,off,none⟩ else some ⟨b,off+k,none⟩
theorem Bytes.behind {w:World} {b off n c:Nat} {l:List Int} (h:Bytes w (some ⟨b,off,none⟩) n l) (k:Nat) (hk:k<=n) (hc:n<=c):Bytes w (REST b off c k) (n - k) (l.drop k):=by
 unfold REST;split
 ·have h0:n - k=0:=by omega
  rw [h0];refine ⟨?_,fun h=>by omega,fun x hx=>h.2.2 x (List.mem_of_mem_drop hx)⟩;rw [List.length_drop,h.1,h0]
 ·exact h.rest k hk
theorem zif (rb:Nat) (k:Int) (b off n c:Nat) (hcap:n+1<=c) (w:World) (h0:w.cell? ⟨rb,0,none⟩=some (.slice (some ⟨b,off,none⟩) (n+1) c)) (hf:w.frozen? ⟨rb,0,none⟩=false) (hc:w.cell? ⟨b,off,none⟩=some (.int .u8 k)):
  Calls Tryz.prog 98 #[.pointer (some ⟨rb,0,none⟩),.int .u8 k] w fun e w'=>e=.returned (.int .i64 0)/\w'=w.setCell ⟨rb,0,none⟩ (.slice (REST b off c 1) n (c - 1)):=by
 have hn1:(0:Int)<(n:Int)+1:=by omega
 have hn2:¬ (n:Int)+1=0:=by omega
 have hcap':(n:Int)+1<=(c:Int):=by omega
 obtain ⟨a',ha'⟩:∃ a',REST b off c 1=a':=⟨_,rfl⟩
 rw [ha'];by_cases h1:c=1
 ·have HA:Aside (some ⟨b,off,none⟩=a'):=by
   rw [<-ha'];simp [REST,h1,Aside]
  have hn0:n=0:=by omega
  subst h1 hn0;clear ha' hcap;go_enter Tryz.func98,Tryz.ntmps98;go_wp2;go_ret;rw [<-HA.out];exact ⟨rfl,rfl⟩
 ·have HA:Aside (some ⟨b,off+1,none⟩=a'):=by
   rw [<-ha'];simp [REST,h1,Aside]
  have hc1:¬ c - 1=0:=by omega
  clear ha' hcap;go_enter Tryz.func98,Tryz.ntmps98;go_wp2;go_ret;rw [<-HA.out];exact ⟨rfl,rfl⟩
theorem zdv (rb f:Nat) (r1 r2 r3:Int) (v:Value) (w:World) (hr:¬ r3=0) (h0:w.cell? ⟨rb,0,none⟩=some v)
  (c:Calls Tryz.prog 126 #[v] w fun e w'=>e=.returned (.tuple #[.int .u64 r1,.int .i64 r2,.int .i64 r3])/\w=w'):
  Calls Tryz.prog 99 #[.pointer (some ⟨rb,0,none⟩),.pointer (some ⟨rb,f,none⟩)] w fun e w'=>e=.returned (.int .i64 r3)/\w=w':=by
 have hr':(r3 != 0)=true:=by simp [hr]
 go_enter Tryz.func99,Tryz.ntmps99;go_wp2_with fail
 refine c.mono ?_;rintro e w' ⟨rfl,rfl⟩;clear c;go_wp2;go_ret;exact ⟨rfl,rfl⟩
theorem zdw (rb f:Nat) (hf0:f≠0) (r1:Int) (b off n c m:Nat) (hm:m<=n) (hcap:n<=c) (hcm:c≠m) (x1:Value) (w:World) (h0:w.cell? ⟨rb,0,none⟩=some (.slice (some ⟨b,off,none⟩) n c)) (h1:w.cell? ⟨rb,f,none⟩=some x1) (z0:w.frozen? ⟨rb,0,none⟩=false) (z1:w.frozen? ⟨rb,f,none⟩=false)
  (cl:Calls Tryz.prog 126 #[.slice (some ⟨b,off,none⟩) n c] w fun e w'=>e=.returned (.tuple #[.int .u64 r1,.int .i64 (m:Int),.int .i64 0])/\w=w'):
  Calls Tryz.prog 99 #[.pointer (some ⟨rb,0,none⟩),.pointer (some ⟨rb,f,none⟩)] w fun e w'=>e=.returned (.int .i64 0)/\w'=(w.drew.setCell ⟨rb,f,none⟩ (.int .u64 r1)).setCell ⟨rb,0,none⟩ (.slice (some ⟨b,off+m,none⟩) (n - m) (c - m)):=by
 have k1:(m:Int)<=(n:Int):=by omega
 have k2:(n:Int)<=(c:Int):=by omega
 have k3:¬ c - m=0:=by omega
 have g0:(w.drew.setCell ⟨rb,f,none⟩ (.int .u64 r1)).cell? ⟨rb,0,none⟩=some (.slice (some ⟨b,off,none⟩) n c):=by rw [z5X hf0];exact h0
 go_enter Tryz.func99,Tryz.ntmps99;go_wp2_with fail
 refine cl.mono ?_;rintro e w' ⟨rfl,rfl⟩;clear cl;go_wp2;go_region
 all_goals go_wp2
 all_goals go_ret
 all_goals exact ⟨rfl,rfl⟩
theorem zdx (rb f:Nat) (hf0:f≠0) (r1:Int) (b off m:Nat) (x1:Value) (w:World) (h0:w.cell? ⟨rb,0,none⟩=some (.slice (some ⟨b,off,none⟩) m m)) (h1:w.cell? ⟨rb,f,none⟩=some x1) (z0:w.frozen? ⟨rb,0,none⟩=false) (z1:w.frozen? ⟨rb,f,none⟩=false)
  (cl:Calls Tryz.prog 126 #[.slice (some ⟨b,off,none⟩) m m] w fun e w'=>e=.returned (.tuple #[.int .u64 r1,.int .i64 (m:Int),.int .i64 0])/\w=w'):
  Calls Tryz.prog 99 #[.pointer (some ⟨rb,0,none⟩),.pointer (some ⟨rb,f,none⟩)] w fun e w'=>e=.returned (.int .i64 0)/\w'=(w.drew.setCell ⟨rb,f,none⟩ (.int .u64 r1)).setCell ⟨rb,0,none⟩ (.slice (some ⟨b,off,none⟩) 0 0):=by
 have g0:(w.drew.setCell ⟨rb,f,none⟩ (.int .u64 r1)).cell? ⟨rb,0,none⟩=some (.slice (some ⟨b,off,none⟩) m m):=by rw [z5X hf0];exact h0
 go_enter Tryz.func99,Tryz.ntmps99;go_wp2_with fail
 refine cl.mono ?_;rintro e w' ⟨rfl,rfl⟩;clear cl;go_wp2;go_region
 all_goals go_wp2
 all_goals go_ret
 all_goals exact ⟨rfl,rfl⟩
theorem z9a (rb f:Nat) (hf0:f≠0) (r1:Int) (b off n c m:Nat) (hm:m<=n) (hcap:n<=c) (x1:Value) (w:World) (h0:w.cell? ⟨rb,0,none⟩=some (.slice (some ⟨b,off,none⟩) n c)) (h1:w.cell? ⟨rb,f,none⟩=some x1) (z0:w.frozen? ⟨rb,0,none⟩=false) (z1:w.frozen? ⟨rb,f,none⟩=false)
  (cl:Calls Tryz.prog 126 #[.slice (some ⟨b,off,none⟩) n c] w fun e w'=>e=.returned (.tuple #[.int .u64 r1,.int .i64 (m:Int),.int .i64 0])/\w=w'):
  Calls Tryz.prog 99 #[.pointer (some ⟨rb,0,none⟩),.pointer (some ⟨rb,f,none⟩)] w fun e w'=>e=.returned (.int .i64 0)/\w'=(w.drew.setCell ⟨rb,f,none⟩ (.int .u64 r1)).setCell ⟨rb,0,none⟩ (.slice (REST b off c m) (n - m) (c - m)):=by
 by_cases h:c=m
 ·obtain rfl:c=n:=by omega
  subst h;have:=zdx rb f hf0 r1 b off c x1 w h0 h1 z0 z1 cl;simpa [REST] using this
 ·have:=zdw rb f hf0 r1 b off n c m hm hcap h x1 w h0 h1 z0 z1 cl
  simpa [REST,h] using this
theorem zdy:(Tryz.prog.info? 24).map (fun i=>(i.size,i.bytes,i.zero.isSome))=some (32,32,true):=by kernel_rfl
theorem zbH (N:Nat) (hN:N<=1000) (w:World):∃ Z:List Value,Z.length=32*N/\(Instr.makeSlice 38 (.int .i64 (N:Int)) (.int .i64 (N:Int))).run Tryz.prog w=.ok (.slice (some ⟨w.heap.size,0,none⟩) N N) (w.alloc (.cells Z.toArray 24)):=by
 obtain ⟨i,hi,h⟩:=Option.map_eq_some_iff.1 zdy;simp only [Prod.mk.injEq] at h;obtain ⟨h1,h2,h3⟩:=h;obtain ⟨z,hz⟩:=Option.isSome_iff_exists.1 h3;have h:=run_make (P:=Tryz.prog) w 38 24 i z Tryz.underlying38 hi hz .i64 .i64 N N (by omega) (by omega) (by rw [h2];omega) (by omega);refine ⟨(madeCells z.cells (N*i.size)).toList,?_,?_⟩
 ·rw [Array.length_toList,size_madeCells,h1]
  omega
 ·simpa using h
def z1J (l:List Int) (Z:List Value) (i:Nat):List Value:=z01 (l.take (32*i)) ++ Z.drop (32*i)
theorem zdz (l:List Int) (Z:List Value):z1J l Z 0=Z:=by simp [z1J,z01]
theorem zfm {l:List Int} {Z:List Value} {N:Nat} (hl:l.length=32*N) (hZ:Z.length=32*N):z1J l Z N=z01 l:=by
 unfold z1J;rw [List.take_of_length_le (by omega),List.drop_of_length_le (by omega),List.append_nil]
theorem zaP {l:List Int} {Z:List Value} {N i:Nat} (hl:l.length=32*N) (hZ:Z.length=32*N) (hi:i<=N):(z1J l Z i).length=32*N:=by
 unfold z1J;rw [List.length_append,List.length_drop,z01,List.length_map,List.length_take];omega
theorem zdA {l:List Int} (Z:List Value) {N i:Nat} (hl:l.length=32*N) (hi:i<N):splice (z1J l Z i) (i*32) (z01 (HSH l i))=z1J l Z (i+1):=by
 have h1:(z01 (l.take (32*i))).length=i*32:=by
  rw [z01,List.length_map,List.length_take];omega
 have h2:(z01 (HSH l i)).length=32:=by
  rw [z01,List.length_map];exact z16 hl hi
 unfold splice z1J;rw [List.take_append_of_le_length (by omega),List.take_of_length_le (by omega),z3E,z0x,h2,List.append_assoc];congr 2
 rw [List.drop_append,List.drop_of_length_le (by omega),List.nil_append,h1,List.drop_drop];congr 1
 omega
theorem zdB (rb f N n c:Nat) (a:Option Addr) (hN:N<=1000) (hn:n<32*N) (w:World) (h0:w.cell? ⟨rb,0,none⟩=some (.slice a n c)):
  Calls Tryz.prog 100 #[.pointer (some ⟨rb,0,none⟩),.pointer (some ⟨rb,f,none⟩),.int .i64 (N:Int)] w fun e w'=>e=.returned (.int .i64 11)/\w=w':=by
 have e1:wrap64 ((N:Int)*32)=(N:Int)*32:=by unfold wrap64;omega
 have h1:(n:Int)<(N:Int)*32:=by omega
 clear hN hn;go_enter Tryz.func100,Tryz.ntmps100;go_wp2;go_ret;exact ⟨rfl,rfl⟩
theorem zbI (rb f N n c:Nat) (a:Option Addr) (hN:N<=1000) (hn:32*N<n) (w:World) (h0:w.cell? ⟨rb,0,none⟩=some (.slice a n c)):
  Calls Tryz.prog 100 #[.pointer (some ⟨rb,0,none⟩),.pointer (some ⟨rb,f,none⟩),.int .i64 (N:Int)] w fun e w'=>e=.returned (.int .i64 13)/\w=w':=by
 have e1:wrap64 ((N:Int)*32)=(N:Int)*32:=by unfold wrap64;omega
 have h1:¬ (n:Int)<(N:Int)*32:=by omega
 have h2:(N:Int)*32<(n:Int):=by omega
 clear hN hn;go_enter Tryz.func100,Tryz.ntmps100;go_wp2;go_ret;exact ⟨rfl,rfl⟩
def ziX (w:World) (rb f N:Nat) (l:List Int) (w':World):Prop:=∃ wx,Below w.heap.size w wx/\w.heap.size<wx.heap.size/\Has wx w.heap.size (z01 l).toArray 24/\w'=wx.setCell ⟨rb,f,none⟩ (.slice (some ⟨w.heap.size,0,none⟩) N N)
theorem zfn (rb f N c:Nat) (a:Option Addr) (hN:N<=1000) (l:List Int) (w:World) (hB:Bytes w a (32*N) l) (hc:32*N<=c) (hrb:rb<w.heap.size) (h0:w.cell? ⟨rb,0,none⟩=some (.slice a (32*N) c)) (x1:Value) (h1:w.cell? ⟨rb,f,none⟩=some x1) (z1:w.frozen? ⟨rb,f,none⟩=false):
  Calls Tryz.prog 100 #[.pointer (some ⟨rb,0,none⟩),.pointer (some ⟨rb,f,none⟩),.int .i64 (N:Int)] w fun e w'=>e=.returned (.int .i64 0)/\ziX w rb f N l w':=by
 have e1:wrap64 ((N:Int)*32)=(N:Int)*32:=by unfold wrap64;omega
 have k1:¬ ((32*N:Nat):Int)<(N:Int)*32:=by omega
 have k2:¬ (N:Int)*32<((32*N:Nat):Int):=by omega
 obtain ⟨M,hM⟩:∃ M,32*N=M:=⟨_,rfl⟩
 rw [hM] at h0 k1 k2 hB hc;obtain ⟨Z,hZ,hmk⟩:=zbH N hN w;have HA:Aside (l.length=32*N/\Z.length=32*N/\N<=1000/\32*N=M/\M<=c/\Bytes w a M l/\rb<w.heap.size/\w.cell? ⟨rb,0,none⟩=some (.slice a M c)/\w.cell? ⟨rb,f,none⟩=some x1/\w.frozen? ⟨rb,f,none⟩=false):=⟨by rw [hM];exact hB.1,hZ,hN,hM,hc,hB,hrb,h0,h1,z1⟩
 clear hN hZ hB hc hM hrb h1 z1;go_enter Tryz.func100,Tryz.ntmps100;go_wp2;clear e1 hmk h0;go_loopg [30] N (fun q s30 wx=>∃ i:Nat,s30=.int .i64 (i:Int)/\Aside (i+q=N/\Below w.heap.size w wx/\w.heap.size<wx.heap.size/\Has wx w.heap.size (z1J l Z i).toArray 24))
 case atStart=>exact ⟨0,rfl,by omega,(Below.refl _ _).alloc (Nat.le_refl _) _,by simp,by rw [zdz];exact Has.new _ _ _⟩
 case round=>
  obtain ⟨i,rfl,A⟩:=hrel;obtain ⟨hi,hbel,hsz,hhas⟩:=A.out;obtain ⟨a1,a2,a3,a4,a5,a6,a7,a8,a9,a10⟩:=HA.out;cases gk with
  | zero=>
    obtain rfl:i=N:=by omega
    have hlt:¬ (i:Int)<(i:Int):=by omega
    have y1:wr.cell? ⟨rb,f,none⟩=some x1:=(hbel.cell (p:=⟨rb,f,none⟩) a7).trans a9;have y2:wr.frozen? ⟨rb,f,none⟩=false:=(hbel.frozen (p:=⟨rb,f,none⟩) a7).trans a10
    have R:Aside (Below w.heap.size w wr/\w.heap.size<wr.heap.size/\Has wr w.heap.size (z01 l).toArray 24):=by
     rw [zfm a1 a2] at hhas;exact ⟨hbel,hsz,hhas⟩
    clear hi hbel hsz hhas a1 a2 a3 a4 a5 a6 a7 a8 a9 a10 A HA;go_wp2;go_ret;exact ⟨rfl,wr,R.out.1,R.out.2.1,R.out.2.2,rfl⟩
  | succ q=>
    have hlt:(i:Int)<(N:Int):=by omega
    obtain ⟨b,o,rfl,hbl,hcs⟩:=a6.2.1 (by omega);have y0:wr.cell? ⟨rb,0,none⟩=some (.slice (some ⟨b,o,none⟩) M c):=(hbel.cell (p:=⟨rb,0,none⟩) a7).trans a8;obtain ⟨I,hI⟩:∃ I,i*32=I:=⟨_,rfl⟩
    have m2:(I:Int)<=(M:Int):=by omega
    have m3:(M:Int)<=(c:Int):=by omega
    have m4:¬ c=I:=by omega
    have h32:(z01 (HSH l i)).length=32:=by
     rw [z01,List.length_map];exact z16 a1 (by omega)
    have hsrc:∀ j v,(z01 (HSH l i))[j]?=some v->wr.cell? ((⟨b,o+I,none⟩:Addr).add j)=some v:=by
     intro j v hv
     have hj:j<32:=by
      have:=(List.getElem?_eq_some_iff.1 hv).1;omega
     rw [z0G _ _ (by rw [z16 a1 (by omega)];exact hj),zac hj] at hv;rw [z1a,show o+I+j=o+(32*i+j) by omega];exact ((hbel.cell (p:=⟨b,o+(32*i+j),none⟩) hbl).trans (hcs (32*i+j) (by omega))).trans hv
    have hpl:=zaP a1 a2 (show i<=N by omega);have hnx:=zdA Z a1 (show i<N by omega);have hone:=z1y (HSH l i);have R:Aside (i+1+q=N/\Below w.heap.size w wr/\w.heap.size<wr.heap.size/\Has wr w.heap.size (z1J l Z i).toArray 24/\splice (z1J l Z i) (i*32) (z01 (HSH l i))=z1J l Z (i+1)):=⟨by omega,hbel,hsz,hhas,hnx⟩
    have S:Aside ((z01 (HSH l i)).length=Nat.min (M - I) 32/\i*32+(z01 (HSH l i)).length<=(z1J l Z i).length):=⟨by rw [h32];exact (Nat.min_eq_right (show 32<=M - I by omega)).symm,by omega⟩
    have E2:Aside (wrap64 ((i:Int)*32)=(I:Int)):=by show wrap64 ((i:Int)*32)=(I:Int);unfold wrap64;omega
    have E3:Aside (IntKind.i64.wrap ((i:Int)*32)=(I:Int)):=by show IntKind.i64.wrap ((i:Int)*32)=(I:Int);rw [IntKind.wrap_i64];omega
    have E1:Aside (wrap64 ((i:Int)+1)=((i+1:Nat):Int)):=by show wrap64 ((i:Int)+1)=((i+1:Nat):Int);unfold wrap64;omega
    clear hi hbel hsz hhas a1 a2 a3 a4 a5 a6 a7 a8 a9 a10 A HA hbl hcs hpl hnx hI;generalize z01 (HSH l i)=H at *
    have hu8:(Tryz.prog.info? 5).map (·.size)=some 1:=by kernel_rfl
    have m1:=E2.out;have m5:=E3.out;go_wp2;go_region_law (refine step_copy_splice rfl (.tmp 36) (.tmp 43) 25 25 rfl 5 Tryz.underlying25 hu8 (some ⟨w.heap.size,i*32,none⟩) (some ⟨b,o+I,none⟩) 32 32 (M - I) (c - I) (by simp [Act.eval,Act.put]) (by simp [Act.eval,Act.put]) w.heap.size (i*32) (z1J l Z i) 24 (by exact R.out.2.2.2.1) H S.out.1 (fun _=>⟨rfl,_,rfl,hsrc⟩) S.out.2 hone w.heap.size w (by exact R.out.2.1.drew) (Nat.le_refl _) ?_;intro w4 hg4 hb4)
    have R2:Aside (i+1+q=N/\Below w.heap.size w w4/\w.heap.size<w4.heap.size/\Has w4 w.heap.size (z1J l Z (i+1)).toArray 24):=by
     obtain ⟨r1,r2,r3,r4,r5⟩:=R.out;have hg5:w4.heap[w.heap.size]?=some (.cells (splice (z1J l Z i) (i*32) H).toArray 24 (0,0)):=hg4;rw [r5] at hg5;exact ⟨r1,hb4,(Array.getElem?_eq_some_iff.1 hg5).1,hg5⟩
    clear R S hg4 hb4 hsrc hone h32 m1 m5 y0;have e1:=E1.out;go_wp2;go_roundg q
    case measure=>exact Nat.lt_succ_self _
    case rel=>exact ⟨i+1,by first | rfl | (rw [E1.out]),R2.out⟩
end Go.Proofs.YtdggkbpabjgdfaaGreatDoor
