/- ManyClashes: part 20. -/
import Derived.Laws.CopyOwn
import Derived.Test.YtobaogpomcocpaaGreatDoorManyClashesP19
set_option maxRecDepth 100000
set_option maxHeartbeats 2000000
open Go.RowKit
namespace Go.Proofs.YtobaogpomcocpaaGreatDoor
def MENC(L:List Nat)(N K:Nat)(l:List Int):Int × List Int:=if MWA L N K=0 then (0,MWRT L N l) else (MWA L N K,[])
theorem qU{w:World}{B s n:Nat}{t:TypeId}{v:Value}{xs:List Value}(h:w.ownsRow B t s v n xs):∃ a c,v=.slice a n c:=by
 rcases h.2 with ⟨e,h0⟩ | ⟨g,cap,cur,e,_⟩
 ·exact⟨none,0,by rw[e,h0]⟩
 ·exact⟨_,_,e⟩
structure ENCD (w w':World) (b1:Nat) (Z:List Int):Prop where
 row:∃ v,Has w' b1 #[v] 27/\w'.ownsRow w.heap.size 5 1 v Z.length (za Z)
 keep:∀ b,b<w.heap.size->b≠b1->w'.heap[b]?=w.heap[b]?
 below:Below b1 w w'
theorem Kj(L:List Nat)(N:Nat)(a:Option Addr)(m c:Nat)(an:Option Addr)(K cn:Nat)(l:List Int)(b0 b1:Nat)(w:World)(hl:L.length=m)(hm:m<2 ^ 20)(hc:m<=c)(hnil:a=none->c=0)(hbl:∀ x,a=some x->x.block<w.heap.size/\x.spot=none)(hK:K<2 ^ 20)(hL:NUML w a L)(hF:Flat w an K l)(hT:Tabled w)(hw0:0<w.heap.size)
  (h0:Has w b0 (MBOX N a m c an K cn) 45)(h1:Has w b1 #[.slice none 0 0] 27):
  Calls Tryz.prog 54 #[.pointer (some ⟨b0,0,none⟩),.pointer (some ⟨b1,0,none⟩)] w fun e w'=>
   (e=.returned (.tuple #[])/\(MWA L N K=0/\ENCD w w' b1 (MWRT L N l)))\/∃ x,e=.panicked (zE x)/\(x=MWA L N K/\x≠0/\Below w.heap.size w w'):=by
 have cm:=Ju L N a m c an K cn w hl hm hc hnil hbl hK hL hT hw0;have hM:(MBOX N a m c an K cn)=#[.int .u64 (N:Int),.slice a m c,.slice an K cn]:=rfl;have x0:w.cell? ⟨b0,0,none⟩=some (.int .u64 (N:Int)):=h0.cell 0;have x1:w.cell? ⟨b0,1,none⟩=some (.slice a m c):=h0.cell 1;have x2:w.cell? ⟨b0,2,none⟩=some (.slice an K cn):=h0.cell 2;have HA:Aside (L.length=m/\m<2 ^ 20/\K<2 ^ 20/\NUML w a L/\Flat w an K l/\Has w b0 (MBOX N a m c an K cn) 45/\Has w b1 #[.slice none 0 0] 27):=⟨hl,hm,hK,hL,hF,h0,h1⟩
 clear hl hm hc hnil hbl hK hL hF hT hw0 h0 h1;rw[hM] at cm;go_enter Tryz.func54,Tryz.ntmps54;go_wp2_with fail
 refine cm.mono ?_;rintro e w1 ⟨hb1,(⟨hr,rfl⟩ | ⟨hr,rfl⟩)⟩
 ·clear cm x0 x1 x2
  obtain⟨q1,q2⟩:=Ye hr;obtain⟨r1,r2,r3⟩:=yF q1;have k0:=HA.out.2.2.2.2.2.1.keep hb1;have x0:w1.cell? ⟨b0,0,none⟩=some (.int .u64 (N:Int)):=k0.cell 0;have x1:w1.cell? ⟨b0,1,none⟩=some (.slice a m c):=k0.cell 1;have x2:w1.cell? ⟨b0,2,none⟩=some (.slice an K cn):=k0.cell 2
  have cw:=Uw L N (by omega) a m c an K cn l w1 HA.out.1 HA.out.2.1 HA.out.2.2.1 r2 (fun x hx=>by have:=r3 x hx;omega) (fun hp=>by
   obtain⟨b,o,e,hlt,hcc⟩:=HA.out.2.2.2.1 hp;exact⟨b,o,e,Nat.lt_of_lt_of_le hlt hb1.size,fun i x hx=>(hb1.cell (p:=⟨b,o+i,none⟩) hlt).trans (hcc i x hx)⟩) (HA.out.2.2.2.2.1.below hb1)
  rw[hM] at cw;have HR:Aside (MWA L N K=0/\Below w.heap.size w w1):=⟨hr,hb1⟩
  clear hr q1 q2 r1 r2 r3 hb1 k0;go_wp2_with fail
  refine cw.mono ?_;rintro e w2 ⟨v,rfl,hown,hb2⟩;clear cw x0 x1 x2;obtain⟨av,cv,rfl⟩:=qU hown;generalize hvv:Value.slice av (MWRT L N l).length cv=v at *
  have hw2:Below w.heap.size w w2:=HR.out.2.trans (hb2.mono HR.out.2.size);have k1:=HA.out.2.2.2.2.2.2.keep hw2;have c1:=k1.cell 0;have f1:=k1.frozen 0
  have FN:Aside (ENCD w (w2.setCell ⟨b1,0,none⟩ v) b1 (MWRT L N l)):=by
   have hlt:=HA.out.2.2.2.2.2.2.lt;refine⟨⟨v,k1.set 0 v,zq (ownsRow_setCell_below hown (a:=⟨b1,0,none⟩) (by show b1<w1.heap.size;have:=HR.out.2.size;omega) _) HR.out.2.size⟩,fun b hb hne=>(Below.heap_setCell _ _ _ _ (by exact hne)).trans (hw2.block b hb),?_⟩;exact(hw2.mono (Nat.le_of_lt hlt)).setCell (p:=⟨b1,0,none⟩) (Nat.le_refl _) _
  subst hvv;clear hown hb2 hw2 k1 HA;go_wp2_with fail
  exact bodyPost_end (v:=.tuple #[]) (by simp[results,Tryz.f54]) rfl (.inl ⟨rfl,HR.out.1,FN.out⟩)
 ·exact⟨rfl,.inr ⟨_,rfl,rfl,hr,hb1⟩⟩
def ANSY(w:World)(A:Int × List Int)(e:Ending)(w':World):Prop:=∃ a c,e=.returned (.tuple #[.slice a A.2.length c,.int .i64 A.1])/\w'.ownsRow w.heap.size 5 1 (.slice a A.2.length c) A.2.length (za A.2)/\Below w.heap.size w w'
theorem UG(L:List Nat)(N:Nat)(a:Option Addr)(m c:Nat)(an:Option Addr)(K cn:Nat)(l:List Int)(w:World)(hl:L.length=m)(hm:m<2 ^ 20)(hc:m<=c)(hnil:a=none->c=0)(hbl:∀ x,a=some x->x.block<w.heap.size/\x.spot=none)(hK:K<2 ^ 20)(hL:NUML w a L)(hF:Flat w an K l)(hT:Tabled w)(hw0:0<w.heap.size):
    Calls Tryz.prog 27 #[.agg (MBOX N a m c an K cn)] w (ANSY w (MENC L N K l)):=by
  have hmf:∀ (fn:Fn) (first cap:Array Value) (w:World),(Instr.makeFunc fn first cap).run Tryz.prog w=.ok (.func fn first cap) w:=fun _ _ _ _=>rfl;obtain⟨w1,e1⟩:∃ w1,w.alloc (.cells (MBOX N a m c an K cn) 45)=w1:=⟨_,rfl⟩
  obtain⟨w3,e3⟩:∃ w3,w1.alloc (.cells #[.slice none 0 0] 27)=w3:=⟨_,rfl⟩
  obtain⟨w4,e4⟩:∃ w4,w3.alloc (.cells #[.int .i64 0] 29)=w4:=⟨_,rfl⟩
  have s1:w1.heap.size=w.heap.size+1:=by rw[<-e1];simp
  have s3:w3.heap.size=w.heap.size+2:=by rw[<-e3];simp;omega
  have s4:w4.heap.size=w.heap.size+3:=by rw[<-e4];simp;omega
  have hb4:Below w.heap.size w w4:=by
    rw[<-e4,<-e3,<-e1];exact(((Below.refl _ _).alloc (Nat.le_refl _) _).alloc (by simp) _).alloc (by simp;omega) _
  have h0:Has w4 w.heap.size (MBOX N a m c an K cn) 45:=by
    rw[<-e4,<-e3,<-e1];exact((Has.new w _ _).alloc _).alloc _
  have h1:Has w4 w1.heap.size #[.slice none 0 0] 27:=by
    rw[<-e4,<-e3];exact(Has.new w1 _ _).alloc _
  have h3:Has w4 w3.heap.size #[.int .i64 0] 29:=by
    rw[<-e4];exact Has.new w3 _ _
  have hL4:NUML w4 a L:=fun hp=>by
    obtain⟨b,o,e,hlt,hcc⟩:=hL hp;exact⟨b,o,e,by omega,fun i x hx=>(hb4.cell (p:=⟨b,o+i,none⟩) hlt).trans (hcc i x hx)⟩
  have cd:=Kj L N a m c an K cn l w.heap.size w1.heap.size w4 hl hm hc hnil (fun x e=>⟨by have:=(hbl x e).1;omega,(hbl x e).2⟩) hK hL4 (hF.below hb4) (hT.below hw0 hb4) (by omega) h0 h1;rw[<-e4] at cd
  have cf:=z0q w.heap.size w1.heap.size w3 _ _ cd
    (fun w' ⟨_,ht⟩=>by
      rw[e4] at ht;exact(ht.keep w3.heap.size (by omega) (by omega)).trans h3)
    (fun x w' ⟨_,_,hb⟩=>by rw[e4] at hb;exact h3.keep hb)
  rw[e4] at cf
  have FIN:Aside (∀ e w',xI w3 (fun w'=>MWA L N K=0/\ENCD w4 w' w1.heap.size (MWRT L N l)) (fun x w'=>x=MWA L N K/\x≠0/\Below w4.heap.size w4 w') e w'->e=.returned (.int .i64 (MENC L N K l).1)/\Below w.heap.size w w'/\∃ a' c',Has w' w1.heap.size #[.slice a' (MENC L N K l).2.length c'] 27/\w'.ownsRow w.heap.size 5 1 (.slice a' (MENC L N K l).2.length c') (MENC L N K l).2.length (za (MENC L N K l).2)):=by
    rintro e w' (⟨rfl,wx,⟨hr,ht⟩,rfl⟩ | ⟨x,wx,rfl,⟨rfl,hx,hbx⟩,rfl⟩)
    · have hP:MENC L N K l=(0,MWRT L N l):=if_pos hr
      obtain⟨v,hv,hown⟩:=ht.row;obtain⟨a',c',rfl⟩:=qU hown;rw[hP];refine⟨rfl,?_,a',c',?_,?_⟩
      · exact((hb4.trans (ht.below.mono (by omega)))).setCell (by show w.heap.size<=w3.heap.size;omega) _
      · exact hv.other (by show w1.heap.size≠w3.heap.size;omega) _
      · exact zq (ownsRow_setCell_below hown (a:=⟨w3.heap.size,0,none⟩) (by show w3.heap.size<w4.heap.size;omega) _) (by omega)
    · have hP:MENC L N K l=(MWA L N K,[]):=if_neg hx
      rw[hP];refine⟨rfl,(hb4.trans (hbx.mono hb4.size)).setCell (by show w.heap.size<=w3.heap.size;omega) _,none,0,?_,?_⟩
      · exact(h1.keep hbx).other (by show w1.heap.size≠w3.heap.size;omega) _
      · exact⟨rfl,.inl ⟨rfl,rfl⟩⟩
  have hM:(MBOX N a m c an K cn)=#[.int .u64 (N:Int),.slice a m c,.slice an K cn]:=rfl;rw[hM] at e1;clear cd h0 h1 h3 hL4 hb4 hl hm hc hnil hbl hL hF hT s1 s3 s4 e4 hw0 hK;generalize MENC L N K l=A at *
  go_enter Tryz.func27,Tryz.ntmps27;rw[hM];go_wp2_with fail
  refine cf.mono ?_;intro e w5 hh;obtain⟨rfl,hb5,a',c',hv,hown⟩:=FIN.out e w5 hh;have x0:=hv.cell 0;have FN:Aside (ANSY w A (.returned (.tuple #[.slice a' A.2.length c',.int .i64 A.1])) w5):=⟨a',c',rfl,hown,hb5⟩
  clear hh hb5 hv hown FIN cf;go_wp2_with fail
  go_ret2;exact FN.out
def LG(l:List Int)(n:Nat):Nat->Nat->Int->Int × Int × Int
 | 0,_,_=>(0,0,10)
 | f+1,k,x=>if k=n then (0,0,11) else if 128<=l.getD k 0 then LG l n f (k+1) (x+l.getD k 0 % 128*128 ^ k)
   else if k=9/\1<l.getD k 0 then (0,0,10) else if l.getD k 0=0/\0<k then (0,0,12) else (x+l.getD k 0*128 ^ k,(k:Int)+1,0)
theorem XZ{l:List Int}{n f k:Nat}{x:Int}(h:k=n):LG l n (f+1) k x=(0,0,11):=by
 show (if k=n then _ else _)=_;rw[if_pos h]
theorem XK{l:List Int}{n f k:Nat}{x:Int}(h:k≠n)(hc:128<=l.getD k 0):LG l n (f+1) k x=LG l n f (k+1) (x+l.getD k 0 % 128*128 ^ k):=by
 show (if k=n then _ else _)=_;rw[if_neg h,if_pos hc]
theorem Yf{l:List Int}{n f k:Nat}{x:Int}(h:k≠n)(hc:¬ 128<=l.getD k 0):LG l n (f+1) k x=if k=9/\1<l.getD k 0 then (0,0,10) else if l.getD k 0=0/\0<k then (0,0,12) else (x+l.getD k 0*128 ^ k,(k:Int)+1,0):=by
 show (if k=n then _ else _)=_;rw[if_neg h,if_neg hc]
theorem pow7(k:Nat):(2:Nat) ^ (7*k)=128 ^ k:=by rw[Nat.pow_mul]
theorem Y1(L k:Nat):SHL L (7*(k:Int))=L*128 ^ k % 2 ^ 64:=by
 unfold SHL;rw[if_neg (by omega),show (7*(k:Int)).toNat=7*k by omega,pow7]
theorem mz(L k:Nat):SHR L (7*(k:Int))=L / 128 ^ k:=by
 unfold SHR;rw[if_neg (by omega),show (7*(k:Int)).toNat=7*k by omega,pow7]
theorem JW{L k:Nat}(hL:L<128)(hk:k<=8):L*128 ^ k % 2 ^ 64=L*128 ^ k:=by
 have h:=Nat.pow_le_pow_right (n:=128) (by decide) hk;have h2:L*128 ^ k<=127*128 ^ 8:=Nat.mul_le_mul (by omega) h;exact Nat.mod_eq_of_lt (Nat.lt_of_le_of_lt h2 (by decide))
theorem gZ{L k:Nat}(hL:L<128)(hk:k<=9):L*128 ^ k % 2 ^ 64 / 128 ^ k=if k=9 then L % 2 else L:=by
 by_cases h:k=9
 ·subst h
  rw[if_pos rfl];omega
 ·rw[if_neg h,JW hL (by omega),Nat.mul_div_cancel _ (Nat.pow_pos (by decide))]
theorem VS{x L k:Nat}(hx:x<128 ^ k)(hL:L<128)(hk:k<=8):bits .or .u64 (x:Int) ((L*128 ^ k % 2 ^ 64:Nat):Int)=((x+L*128 ^ k:Nat):Int):=by
 have h8:=Nat.pow_le_pow_right (n:=128) (by decide) hk;have hx2:x<2 ^ 64:=Nat.lt_of_lt_of_le hx (Nat.le_trans h8 (by decide));rw[X9 hx2 (Nat.mod_lt _ (by decide)),JW hL hk,Nat.or_comm,nat_join (7*k) _ x (by rw[pow7];exact Nat.mul_mod_left _ _) (by rw[pow7];exact hx),Nat.add_comm]
theorem mA{x L:Nat}(hx:x<128 ^ 9)(hL:L<2):bits .or .u64 (x:Int) ((L*128 ^ 9 % 2 ^ 64:Nat):Int)=((x+L*128 ^ 9:Nat):Int):=by
 have h1:L*128 ^ 9 % 2 ^ 64=L*128 ^ 9:=Nat.mod_eq_of_lt (by omega);rw[X9 (Nat.lt_of_lt_of_le hx (by decide)) (Nat.mod_lt _ (by decide)),h1,Nat.or_comm,nat_join (7*9) _ x (by omega) (by omega),Nat.add_comm]
def Gath(l:List Int)(n k:Nat)(y:Int)(R:Int × Int × Int):Prop:=∃ x:Nat,LG l n (10 - k) k (x:Int)=R/\(k<=9->y=(x:Int)/\x<128 ^ k)
theorem Gath.start(l:List Int)(n:Nat):Gath l n 0 0 (LG l n 10 0 0):=⟨0,rfl,fun _=>⟨rfl,by decide⟩⟩
theorem Gath.next{l:List Int}{n k:Nat}{y v p:Int}{R:Int × Int × Int}(A:Gath l n k y R)(hk:k<=9)(hkn:k≠n)(hv:l.getD k 0=v)(h0:128<=v)
  (hp:p=((SHL (v % 128).toNat (7*(k:Int)):Nat):Int)):Gath l n (k+1) (bits .or .u64 y p) R:=by
 obtain⟨x,hx,hy⟩:=A;obtain⟨rfl,hlt⟩:=hy hk;obtain⟨L,hL⟩:∃ L:Nat,v % 128=(L:Int):=⟨(v % 128).toNat,by omega⟩
 rw[show 10 - k=10 - (k+1)+1 by omega,XK hkn (by rw[hv];exact h0),hv,hL] at hx;have hL128:L<128:=by omega
 rw[hL,Int.toNat_natCast,Y1] at hp;refine⟨x+L*128 ^ k,?_,fun h=>?_⟩
 ·rw[<-hx]
  congr 1
 ·rw[hp,VS hlt hL128 (by omega)]
  refine⟨rfl,?_⟩;have:L*128 ^ k<=127*128 ^ k:=Nat.mul_le_mul_right _ (by omega);rw[Nat.pow_succ];omega
theorem Gath.hit{l:List Int}{n k:Nat}{y v:Int}{R:Int × Int × Int}(A:Gath l n k y R)(hk:k<=9)(hkn:k≠n)(hv:l.getD k 0=v)(h1:¬ 128<=v):
  R=if k=9/\1<v then (0,0,10) else if v=0/\0<k then (0,0,12) else (y+v*128 ^ k,(k:Int)+1,0):=by
 obtain⟨x,hx,hy⟩:=A;obtain⟨rfl,hlt⟩:=hy hk;rw[show 10 - k=9 - k+1 by omega,Yf hkn (by rw[hv];exact h1),hv] at hx;exact hx.symm
theorem Gath.val{l:List Int}{n k:Nat}{y v p:Int}{R:Int × Int × Int}(A:Gath l n k y R)(hk:k<=9)(h0:0<=v)(h1:¬ 128<=v)(h9:¬ (k=9/\1<v))
  (hp:p=((SHL (v % 128).toNat (7*(k:Int)):Nat):Int)):bits .or .u64 y p=y+v*128 ^ k:=by
 obtain⟨x,_,hy⟩:=A;obtain⟨rfl,hlt⟩:=hy hk;obtain⟨L,rfl⟩:∃ L:Nat,v=(L:Int):=⟨v.toNat,by omega⟩
 rw[show (((L:Int) % 128).toNat)=L by omega,Y1] at hp;by_cases h:k=9
 ·subst h
  rw[hp,mA hlt (by omega)];simp
 ·rw[hp,VS hlt (by omega) (by omega)]
  simp
theorem XL{v p q:Int}{k:Nat}(hk:k<=9)(h0:0<=v)(h1:¬ 128<=v)(hp:p=((SHL (v % 128).toNat (7*(k:Int)):Nat):Int))(hq:q=((SHR p.toNat (7*(k:Int)):Nat):Int)):
  (q != v % 128)=decide (k=9/\1<v):=by
 obtain⟨L,rfl⟩:∃ L:Nat,v=(L:Int):=⟨v.toNat,by omega⟩
 rw[show (((L:Int) % 128).toNat)=L by omega,Y1] at hp;rw[hp,Int.toNat_natCast,mz,gZ (by omega) hk] at hq;rw[hq,Bool.eq_iff_iff,bne_iff_ne,decide_eq_true_iff];split <;> omega
theorem Ga(b off n c:Nat)(l:List Int)(R:Int × Int × Int)(r1 r2 r3:Int)(hR:Aside (LG l n 10 0 0=R/\R=(r1,r2,r3)))(w:World)(hB:Bytes w (some ⟨b,off,none⟩) n l)(h0:0<n)(hn:(n:Int)<10)(hcap:(n:Int)<=(c:Int))(hmax:n<=140737488355328):
  Calls Tryz.prog 141 #[.slice (some ⟨b,off,none⟩) n c] w fun e w'=>e=.returned (.tuple #[.int .u64 r1,.int .i64 r2,.int .i64 r3])/\w=w':=by
 obtain⟨b',off',e,_,hc0⟩:=hB.2.1 h0;simp only[Option.some.injEq,Addr.mk.injEq] at e;obtain⟨rfl,rfl,_⟩:=e;have HC:Aside ((∀ i,i<n->w.cell? ⟨b,off+i,none⟩=some (.int .u8 (l.getD i 0)))/\∀ i,0<=l.getD i 0/\l.getD i 0<=255):=⟨hc0,hB.get⟩
 have hcap0:0<(c:Int):=by omega
 clear hB hc0;go_enter Tryz.func141,Tryz.ntmps141;go_wp2;go_loop [5,16] (fun s5 s16=>∃ (k:Nat) (y:Int),(k:Int)<=(n:Int)/\Aside (Gath l n k y R)/\s5=.int .u64 y/\s16=.int .i64 k) (fun _ i=>n - (intOf i).toNat)
 case atStart=>exact⟨0,0,by omega,hR.out.1 ▸ Gath.start l n,rfl,rfl⟩
 case round=>
  obtain⟨k,y,hk,A,rfl,rfl⟩:=hrel;by_cases hlt:(k:Int)<(n:Int)
  ·have hc := HC.out.1 k (by omega)
   have hcb:=HC.out.2 k;generalize hv:l.getD k 0=v at hc hcb;have Hv:Aside (l.getD k 0=v):=hv;clear hv;have hv0:=hcb.1;have hv1:=hcb.2;clear hcb;obtain⟨p,hp⟩:∃ p:Int,p=((SHL (v % 128).toNat (7*(k:Int)):Nat):Int):=⟨_,rfl⟩
   have hpl:0<=p/\p<2 ^ 64:=by
    have:=XT (show (v % 128).toNat<2 ^ 64 by omega) (7*(k:Int));omega
   have c1:∀ w,Calls Tryz.prog 147 #[.int .u64 (v % 128),.int .i64 (7*(k:Int))] w fun e w'=>e=.returned (.int .u64 p)/\w=w':=fun w=>by
    have h:=XV (v % 128).toNat (7*(k:Int)) (by omega) (by omega) (by omega) w;rw[<-hp,Int.toNat_of_nonneg (by omega)] at h;exact h
   by_cases h128:128<=v
   ·have HP:Aside (p=((SHL (v % 128).toNat (7*(k:Int)):Nat):Int)):=hp
    clear hp hpl;go_wp2_with fail
    refine(c1 _).mono ?_;rintro e w' ⟨rfl,rfl⟩;go_wp2;go_round
    case rel=>exact⟨k+1,_,by omega,A.out.next (by omega) (by omega) Hv.out h128 HP.out,rfl,by go_num⟩
    case measure=>simp[intOf];omega
   ·obtain⟨q,hq⟩:∃ q:Int,q=((SHR p.toNat (7*(k:Int)):Nat):Int):=⟨_,rfl⟩
    have c2:∀ w,Calls Tryz.prog 145 #[.int .u64 p,.int .i64 (7*(k:Int))] w fun e w'=>e=.returned (.int .u64 q)/\w=w':=fun w=>by
     have h:=qW p.toNat (7*(k:Int)) (by omega) (by omega) (by omega) w;rw[<-hq,Int.toNat_of_nonneg hpl.1] at h;exact h
    have hs:=XL (show k<=9 by omega) hv0 h128 hp hq;have hit:=A.out.hit (by omega) (by omega) Hv.out h128;rw[hR.out.2] at hit;have hval:=fun h9=>A.out.val (by omega) hv0 h128 h9 hp;clear hp hpl hq;by_cases hr:k=9/\1<v
    ·rw[if_pos hr] at hit
     simp only[Prod.mk.injEq] at hit;obtain⟨rfl,rfl,rfl⟩:=hit;have hs':(q != v % 128)=true:=by rw[hs];simp[hr]
     clear hs hval hr;go_wp2_with fail
     refine(c1 _).mono ?_;rintro e w' ⟨rfl,rfl⟩;go_wp2_with fail
     refine(c2 _).mono ?_;rintro e w' ⟨rfl,rfl⟩;go_wp2;go_ret3
     exact⟨rfl,rfl⟩
    ·rw[if_neg hr] at hit
     have hs':(q != v % 128)=false:=by rw[hs];simp only[decide_eq_false_iff_not];exact hr
     have hval':=hval hr;clear hs hval hr;by_cases hz:v=0/\0<k
     ·rw[if_pos hz] at hit
      simp only[Prod.mk.injEq] at hit;obtain⟨rfl,rfl,rfl⟩:=hit;obtain⟨rfl,hk0⟩:=hz;have hk0':0<(k:Int):=by omega
      clear hval';go_wp2_with fail
      refine(c1 _).mono ?_;rintro e w' ⟨rfl,rfl⟩;go_wp2_with fail
      refine(c2 _).mono ?_;rintro e w' ⟨rfl,rfl⟩;go_wp2;go_ret3
      exact⟨rfl,rfl⟩
     ·rw[if_neg hz] at hit
      simp only[Prod.mk.injEq] at hit;obtain⟨e1,rfl,rfl⟩:=hit;rw[<-e1] at hval';have HE:Aside (bits .or .u64 y p=r1):=hval';clear hval' e1;by_cases hv00:v=0
      ·have hk0:¬ 0<(k:Int):=by omega
       have hvb:(v == 0)=true:=by simp[hv00]
       clear hz hv00;go_wp2_with fail
       refine(c1 _).mono ?_;rintro e w' ⟨rfl,rfl⟩;go_wp2_with fail
       refine(c2 _).mono ?_;rintro e w' ⟨rfl,rfl⟩;go_wp2;go_ret3
       exact⟨by rw[<-HE.out];rfl,rfl⟩
      ·have hvb:(v == 0)=false:=by simp[hv00]
       clear hz hv00;go_wp2_with fail
       refine(c1 _).mono ?_;rintro e w' ⟨rfl,rfl⟩;go_wp2_with fail
       refine(c2 _).mono ?_;rintro e w' ⟨rfl,rfl⟩;go_wp2;go_ret3
       exact⟨by rw[<-HE.out];rfl,rfl⟩
  ·have hk':k=n:=by omega
   subst hk';have hit:=A.out;obtain⟨x,hx,_⟩:=hit;rw[show 10 - k=9 - k+1 by omega,XZ rfl,hR.out.2] at hx;simp only[Prod.mk.injEq] at hx;obtain⟨rfl,rfl,rfl⟩:=hx;clear A;go_wp2;go_ret3
   exact⟨rfl,rfl⟩
theorem mB(b off n c:Nat)(l:List Int)(R:Int × Int × Int)(r1 r2 r3:Int)(hR:Aside (LG l n 10 0 0=R/\R=(r1,r2,r3)))(w:World)(hB:Bytes w (some ⟨b,off,none⟩) n l)(h0:0<n)(hn:10<(n:Int))(hcap:(n:Int)<=(c:Int))(hmax:n<=140737488355328):
  Calls Tryz.prog 141 #[.slice (some ⟨b,off,none⟩) n c] w fun e w'=>e=.returned (.tuple #[.int .u64 r1,.int .i64 r2,.int .i64 r3])/\w=w':=by
 obtain⟨b',off',e,_,hc0⟩:=hB.2.1 h0;simp only[Option.some.injEq,Addr.mk.injEq] at e;obtain⟨rfl,rfl,_⟩:=e;have HC:Aside ((∀ i,i<n->w.cell? ⟨b,off+i,none⟩=some (.int .u8 (l.getD i 0)))/\∀ i,0<=l.getD i 0/\l.getD i 0<=255):=⟨hc0,hB.get⟩
 have hcap0:0<(c:Int):=by omega
 have h10c:(10:Int)<=(c:Int):=by omega
 clear hB hc0;go_enter Tryz.func141,Tryz.ntmps141;go_wp2;go_loop [5,16] (fun s5 s16=>∃ (k:Nat) (y:Int),(k:Int)<=10/\Aside (Gath l n k y R)/\s5=.int .u64 y/\s16=.int .i64 k) (fun _ i=>10 - (intOf i).toNat)
 case atStart=>exact⟨0,0,by omega,hR.out.1 ▸ Gath.start l n,rfl,rfl⟩
 case round=>
  obtain⟨k,y,hk,A,rfl,rfl⟩:=hrel;by_cases hlt:(k:Int)<10
  ·have hc := HC.out.1 k (by omega)
   have hcb:=HC.out.2 k;generalize hv:l.getD k 0=v at hc hcb;have Hv:Aside (l.getD k 0=v):=hv;clear hv;have hv0:=hcb.1;have hv1:=hcb.2;clear hcb;obtain⟨p,hp⟩:∃ p:Int,p=((SHL (v % 128).toNat (7*(k:Int)):Nat):Int):=⟨_,rfl⟩
   have hpl:0<=p/\p<2 ^ 64:=by
    have:=XT (show (v % 128).toNat<2 ^ 64 by omega) (7*(k:Int));omega
   have c1:∀ w,Calls Tryz.prog 147 #[.int .u64 (v % 128),.int .i64 (7*(k:Int))] w fun e w'=>e=.returned (.int .u64 p)/\w=w':=fun w=>by
    have h:=XV (v % 128).toNat (7*(k:Int)) (by omega) (by omega) (by omega) w;rw[<-hp,Int.toNat_of_nonneg (by omega)] at h;exact h
   by_cases h128:128<=v
   ·have HP:Aside (p=((SHL (v % 128).toNat (7*(k:Int)):Nat):Int)):=hp
    clear hp hpl;go_wp2_with fail
    refine(c1 _).mono ?_;rintro e w' ⟨rfl,rfl⟩;go_wp2;go_round
    case rel=>exact⟨k+1,_,by omega,A.out.next (by omega) (by omega) Hv.out h128 HP.out,rfl,by go_num⟩
    case measure=>simp[intOf];omega
   ·obtain⟨q,hq⟩:∃ q:Int,q=((SHR p.toNat (7*(k:Int)):Nat):Int):=⟨_,rfl⟩
    have c2:∀ w,Calls Tryz.prog 145 #[.int .u64 p,.int .i64 (7*(k:Int))] w fun e w'=>e=.returned (.int .u64 q)/\w=w':=fun w=>by
     have h:=qW p.toNat (7*(k:Int)) (by omega) (by omega) (by omega) w;rw[<-hq,Int.toNat_of_nonneg hpl.1] at h;exact h
    have hs:=XL (show k<=9 by omega) hv0 h128 hp hq;have hit:=A.out.hit (by omega) (by omega) Hv.out h128;rw[hR.out.2] at hit;have hval:=fun h9=>A.out.val (by omega) hv0 h128 h9 hp;clear hp hpl hq;by_cases hr:k=9/\1<v
    ·rw[if_pos hr] at hit
     simp only[Prod.mk.injEq] at hit;obtain⟨rfl,rfl,rfl⟩:=hit;have hs':(q != v % 128)=true:=by rw[hs];simp[hr]
     clear hs hval hr;go_wp2_with fail
     refine(c1 _).mono ?_;rintro e w' ⟨rfl,rfl⟩;go_wp2_with fail
     refine(c2 _).mono ?_;rintro e w' ⟨rfl,rfl⟩;go_wp2;go_ret3
     exact⟨rfl,rfl⟩
    ·rw[if_neg hr] at hit
     have hs':(q != v % 128)=false:=by rw[hs];simp only[decide_eq_false_iff_not];exact hr
     have hval':=hval hr;clear hs hval hr;by_cases hz:v=0/\0<k
     ·rw[if_pos hz] at hit
      simp only[Prod.mk.injEq] at hit;obtain⟨rfl,rfl,rfl⟩:=hit;obtain⟨rfl,hk0⟩:=hz;have hk0':0<(k:Int):=by omega
      clear hval';go_wp2_with fail
      refine(c1 _).mono ?_;rintro e w' ⟨rfl,rfl⟩;go_wp2_with fail
      refine(c2 _).mono ?_;rintro e w' ⟨rfl,rfl⟩;go_wp2;go_ret3
      exact⟨rfl,rfl⟩
     ·rw[if_neg hz] at hit
      simp only[Prod.mk.injEq] at hit;obtain⟨e1,rfl,rfl⟩:=hit;rw[<-e1] at hval';have HE:Aside (bits .or .u64 y p=r1):=hval';clear hval' e1;by_cases hv00:v=0
      ·have hk0:¬ 0<(k:Int):=by omega
       have hvb:(v == 0)=true:=by simp[hv00]
       clear hz hv00;go_wp2_with fail
       refine(c1 _).mono ?_;rintro e w' ⟨rfl,rfl⟩;go_wp2_with fail
       refine(c2 _).mono ?_;rintro e w' ⟨rfl,rfl⟩;go_wp2;go_ret3
       exact⟨by rw[<-HE.out];rfl,rfl⟩
      ·have hvb:(v == 0)=false:=by simp[hv00]
       clear hz hv00;go_wp2_with fail
       refine(c1 _).mono ?_;rintro e w' ⟨rfl,rfl⟩;go_wp2_with fail
       refine(c2 _).mono ?_;rintro e w' ⟨rfl,rfl⟩;go_wp2;go_ret3
       exact⟨by rw[<-HE.out];rfl,rfl⟩
  ·have hk':k=10:=by omega
   subst hk';have hit:=A.out;obtain⟨x,hx,_⟩:=hit;rw[show 10 - 10=0 by omega,hR.out.2] at hx;have hx:(0,0,10)=(r1,r2,r3):=hx;simp only[Prod.mk.injEq] at hx;obtain⟨rfl,rfl,rfl⟩:=hx;clear A;go_wp2;go_ret3
   exact⟨rfl,rfl⟩
theorem z0r(b off c:Nat)(l:List Int)(R:Int × Int × Int)(r1 r2 r3:Int)(hR:Aside (LG l 10 10 0 0=R/\R=(r1,r2,r3)))(w:World)(hB:Bytes w (some ⟨b,off,none⟩) 10 l)(hcap:(10:Int)<=(c:Int)):
  Calls Tryz.prog 141 #[.slice (some ⟨b,off,none⟩) 10 c] w fun e w'=>e=.returned (.tuple #[.int .u64 r1,.int .i64 r2,.int .i64 r3])/\w=w':=by
 obtain⟨b',off',e,_,hc0⟩:=hB.2.1 (by decide);simp only[Option.some.injEq,Addr.mk.injEq] at e;obtain⟨rfl,rfl,_⟩:=e;have HC:Aside ((∀ i,i<10->w.cell? ⟨b,off+i,none⟩=some (.int .u8 (l.getD i 0)))/\∀ i,0<=l.getD i 0/\l.getD i 0<=255):=⟨hc0,hB.get⟩
 have hcap0:0<(c:Int):=by omega
 clear hB hc0;go_enter Tryz.func141,Tryz.ntmps141;go_wp2;go_loop [5,16] (fun s5 s16=>∃ (k:Nat) (y:Int),(k:Int)<=10/\Aside (Gath l 10 k y R)/\s5=.int .u64 y/\s16=.int .i64 k) (fun _ i=>10 - (intOf i).toNat)
 case atStart=>exact⟨0,0,by omega,hR.out.1 ▸ Gath.start l 10,rfl,rfl⟩
 case round=>
  obtain⟨k,y,hk,A,rfl,rfl⟩:=hrel;by_cases hlt:(k:Int)<10
  ·have hc := HC.out.1 k (by omega)
   have hcb:=HC.out.2 k;generalize hv:l.getD k 0=v at hc hcb;have Hv:Aside (l.getD k 0=v):=hv;clear hv;have hv0:=hcb.1;have hv1:=hcb.2;clear hcb;obtain⟨p,hp⟩:∃ p:Int,p=((SHL (v % 128).toNat (7*(k:Int)):Nat):Int):=⟨_,rfl⟩
   have hpl:0<=p/\p<2 ^ 64:=by
    have:=XT (show (v % 128).toNat<2 ^ 64 by omega) (7*(k:Int));omega
   have c1:∀ w,Calls Tryz.prog 147 #[.int .u64 (v % 128),.int .i64 (7*(k:Int))] w fun e w'=>e=.returned (.int .u64 p)/\w=w':=fun w=>by
    have h:=XV (v % 128).toNat (7*(k:Int)) (by omega) (by omega) (by omega) w;rw[<-hp,Int.toNat_of_nonneg (by omega)] at h;exact h
   by_cases h128:128<=v
   ·have HP:Aside (p=((SHL (v % 128).toNat (7*(k:Int)):Nat):Int)):=hp
    clear hp hpl;go_wp2_with fail
    refine(c1 _).mono ?_;rintro e w' ⟨rfl,rfl⟩;go_wp2;go_round
    case rel=>exact⟨k+1,_,by omega,A.out.next (by omega) (by omega) Hv.out h128 HP.out,rfl,by go_num⟩
    case measure=>simp[intOf];omega
   ·obtain⟨q,hq⟩:∃ q:Int,q=((SHR p.toNat (7*(k:Int)):Nat):Int):=⟨_,rfl⟩
    have c2:∀ w,Calls Tryz.prog 145 #[.int .u64 p,.int .i64 (7*(k:Int))] w fun e w'=>e=.returned (.int .u64 q)/\w=w':=fun w=>by
     have h:=qW p.toNat (7*(k:Int)) (by omega) (by omega) (by omega) w;rw[<-hq,Int.toNat_of_nonneg hpl.1] at h;exact h
    have hs:=XL (show k<=9 by omega) hv0 h128 hp hq;have hit:=A.out.hit (by omega) (by omega) Hv.out h128;rw[hR.out.2] at hit;have hval:=fun h9=>A.out.val (by omega) hv0 h128 h9 hp;clear hp hpl hq;by_cases hr:k=9/\1<v
    ·rw[if_pos hr] at hit
     simp only[Prod.mk.injEq] at hit;obtain⟨rfl,rfl,rfl⟩:=hit;have hs':(q != v % 128)=true:=by rw[hs];simp[hr]
     clear hs hval hr;go_wp2_with fail
     refine(c1 _).mono ?_;rintro e w' ⟨rfl,rfl⟩;go_wp2_with fail
     refine(c2 _).mono ?_;rintro e w' ⟨rfl,rfl⟩;go_wp2;go_ret3
     exact⟨rfl,rfl⟩
    ·rw[if_neg hr] at hit
     have hs':(q != v % 128)=false:=by rw[hs];simp only[decide_eq_false_iff_not];exact hr
     have hval':=hval hr;clear hs hval hr;by_cases hz:v=0/\0<k
     ·rw[if_pos hz] at hit
      simp only[Prod.mk.injEq] at hit;obtain⟨rfl,rfl,rfl⟩:=hit;obtain⟨rfl,hk0⟩:=hz;have hk0':0<(k:Int):=by omega
      clear hval';go_wp2_with fail
      refine(c1 _).mono ?_;rintro e w' ⟨rfl,rfl⟩;go_wp2_with fail
      refine(c2 _).mono ?_;rintro e w' ⟨rfl,rfl⟩;go_wp2;go_ret3
      exact⟨rfl,rfl⟩
     ·rw[if_neg hz] at hit
      simp only[Prod.mk.injEq] at hit;obtain⟨e1,rfl,rfl⟩:=hit;rw[<-e1] at hval';have HE:Aside (bits .or .u64 y p=r1):=hval';clear hval' e1;by_cases hv00:v=0
      ·have hk0:¬ 0<(k:Int):=by omega
       have hvb:(v == 0)=true:=by simp[hv00]
       clear hz hv00;go_wp2_with fail
       refine(c1 _).mono ?_;rintro e w' ⟨rfl,rfl⟩;go_wp2_with fail
       refine(c2 _).mono ?_;rintro e w' ⟨rfl,rfl⟩;go_wp2;go_ret3
       exact⟨by rw[<-HE.out];rfl,rfl⟩
      ·have hvb:(v == 0)=false:=by simp[hv00]
       clear hz hv00;go_wp2_with fail
       refine(c1 _).mono ?_;rintro e w' ⟨rfl,rfl⟩;go_wp2_with fail
       refine(c2 _).mono ?_;rintro e w' ⟨rfl,rfl⟩;go_wp2;go_ret3
       exact⟨by rw[<-HE.out];rfl,rfl⟩
  ·have hk':k=10:=by omega
   subst hk';have hit:=A.out;obtain⟨x,hx,_⟩:=hit;rw[show 10 - 10=0 by omega,hR.out.2] at hx;have hx:(0,0,10)=(r1,r2,r3):=hx;simp only[Prod.mk.injEq] at hx;obtain⟨rfl,rfl,rfl⟩:=hx;clear A;go_wp2;go_ret3
   exact⟨rfl,rfl⟩
theorem Gb(a:Option Addr)(c:Nat)(w:World):Calls Tryz.prog 141 #[.slice a 0 c] w fun e w'=>e=.returned (.tuple #[.int .u64 0,.int .i64 0,.int .i64 11])/\w=w':=by
 go_enter Tryz.func141,Tryz.ntmps141;go_wp2;refine wp_loop_rounds 1 ?_;rw[rounds_succ];go_wp2;go_ret3
 exact⟨rfl,rfl⟩
theorem uJ(a:Option Addr)(n c:Nat)(l:List Int)(w:World)(hB:Bytes w a n l)(hcap:n<=c)(hmax:n<=140737488355328):
  Calls Tryz.prog 141 #[.slice a n c] w fun e w'=>e=.returned (.tuple #[.int .u64 (LG l n 10 0 0).1,.int .i64 (LG l n 10 0 0).2.1,.int .i64 (LG l n 10 0 0).2.2])/\w=w':=by
 rcases Nat.eq_zero_or_pos n with h | h
 ·subst h
  exact Gb a c w
 ·obtain⟨b,off,rfl,_,_⟩:=hB.2.1 h
  by_cases h10:(n:Int)<10
  ·exact Ga b off n c l _ _ _ _ ⟨rfl,rfl⟩ w hB h h10 (by omega) hmax
  ·by_cases h10':n=10
   ·subst h10'
    exact z0r b off c l _ _ _ _ ⟨rfl,rfl⟩ w hB (by omega)
   ·exact mB b off n c l _ _ _ _ ⟨rfl,rfl⟩ w hB h (by omega) (by omega) hmax
def VAL(d:Nat->Nat):Nat->Nat
 | 0=>0
 | m+1=>VAL d m+d m*128 ^ m
theorem jP{d:Nat->Nat}(hd:∀ i,d i<128):∀ m,VAL d m<128 ^ m
 | 0=>by simp[VAL]
 | m+1=>by
   have:=jP hd m;have h2:d m*128 ^ m<=127*128 ^ m:=Nat.mul_le_mul_right _ (by have:=hd m;omega);simp only[VAL,Nat.pow_succ];omega
theorem vV{d:Nat->Nat}(hd:∀ i,d i<128):∀ (m t i:Nat),i<m->(VAL d m+t*128 ^ m) / 128 ^ i % 128=d i
 | 0,_,_,h=>by omega
 | m + 1,t,i,h=>by
   have e:VAL d (m+1)+t*128 ^ (m+1)=VAL d m+(d m+t*128)*128 ^ m:=by
    simp only[VAL];rw[Nat.add_mul,Nat.pow_succ,Nat.mul_assoc,Nat.mul_comm 128,<-Nat.add_assoc]
   rw[e];by_cases hi:i=m
   ·subst hi
    rw[Nat.add_mul_div_right _ _ (Nat.pow_pos (by decide)),Nat.div_eq_of_lt (jP hd i)];have:=hd i;omega
   ·exact vV hd m _ i (by omega)
theorem z1K{d:Nat->Nat}(hd:∀ i,d i<128)(m t:Nat):(VAL d m+t*128 ^ m) / 128 ^ m=t:=by
 rw[Nat.add_mul_div_right _ _ (Nat.pow_pos (by decide)),Nat.div_eq_of_lt (jP hd m),Nat.zero_add]
def DIG(l:List Int):Nat->Nat:=fun i=>(l.getD i 0 % 128).toNat
theorem X0(l:List Int)(i:Nat):DIG l i<128:=by unfold DIG;omega
theorem jQ{l:List Int}{n:Nat}:∀ (m f:Nat),(∀ i,i<m->128<=l.getD i 0)->(∀ i,i<m->i≠n)->LG l n (f+m) 0 0=LG l n f m (VAL (DIG l) m:Nat)
 | 0,f,_,_=>rfl
 | m+1,f,h,hn=>by
   rw[show f+(m+1)=f+1+m by omega,jQ m (f+1) (fun i hi=>h i (by omega)) (fun i hi=>hn i (by omega)),XK (hn m (by omega)) (h m (by omega))];congr 1
   simp only[VAL,DIG];rw[Int.natCast_add,Int.natCast_mul,Int.natCast_pow,Int.toNat_of_nonneg (by omega)];rfl
theorem VT{l:List Int}{n:Nat}:∀ (f k:Nat) (x:Int),k<=n->(LG l n f k x).2.2=0->∃ m,k<=m/\m<k+f/\m<n/\(∀ i,k<=i->i<m->128<=l.getD i 0)/\¬ 128<=l.getD m 0/\¬ (m=9/\1<l.getD m 0)/\¬ (l.getD m 0=0/\0<m)
 | 0,k,x,_,h=>by simp[LG] at h
 | f + 1,k,x,hkn,h=>by
   by_cases h1:k=n
   ·rw[XZ h1] at h
    simp at h
   ·by_cases h2:128<=l.getD k 0
    ·rw[XK h1 h2] at h
     obtain⟨m,a,b,c,d,e,g,i⟩:=VT f (k+1) _ (by omega) h;refine⟨m,by omega,by omega,c,fun j hj1 hj2=>?_,e,g,i⟩;by_cases hj:j=k
     ·rw[hj];exact h2
     ·exact d j (by omega) hj2
    ·rw[Yf h1 h2] at h
     by_cases h3:k=9/\1<l.getD k 0
     ·rw[if_pos h3] at h
      simp at h
     ·rw[if_neg h3] at h
      by_cases h4:l.getD k 0=0/\0<k
      ·rw[if_pos h4] at h
       simp at h
      ·exact⟨k,Nat.le_refl _,by omega,by omega,fun j hj1 hj2=>by omega,h2,h3,h4⟩
theorem z2T{l:List Int}{n m:Nat}(hm:m<=9)(hmn:m<n)(h:∀ i,i<m->128<=l.getD i 0)(h1:¬ 128<=l.getD m 0)(h2:¬ (m=9/\1<l.getD m 0))(h3:¬ (l.getD m 0=0/\0<m)):
  LG l n 10 0 0=((VAL (DIG l) m:Nat)+l.getD m 0*128 ^ m,(m:Int)+1,0):=by
 rw[show 10=9 - m+1+m by omega,jQ m (9 - m+1) h (fun i hi=>by omega),Yf (by omega) h1,if_neg h2,if_neg h3]
theorem mC{a b:List Int}{i:Nat}(h:i<a.length):(a ++ b).getD i 0=a.getD i 0:=by
 rw[List.getD_eq_getElem?_getD,List.getElem?_append_left h,<-List.getD_eq_getElem?_getD]
theorem mD{X i:Nat}(h:i<NTOP X):(zr X).getD i 0=((X / 128 ^ i % 128+128:Nat):Int):=by
 unfold zr;rw[mC (by rw[jX];exact h),List.getD_eq_getElem?_getD];simp[zR,h]
theorem Gc(X:Nat):(zr X).getD (NTOP X) 0=((X / 128 ^ NTOP X:Nat):Int):=by
 unfold zr;rw[List.getD_eq_getElem?_getD,List.getElem?_append_right (by rw[jX];exact Nat.le_refl _),jX];simp
theorem z1L{l:List Int}{n:Nat}(hl:l.length=n)(hr:∀ i,0<=l.getD i 0/\l.getD i 0<=255)(h:(LG l n 10 0 0).2.2=0):
  ∃ Z m:Nat,Z<2 ^ 64/\m<n/\m<=9/\LG l n 10 0 0=((Z:Int),(m:Int)+1,0)/\NTOP Z=m/\zr Z=l.take (m+1):=by
 obtain⟨m,_,hm,hmn,hlow,h1,h2,h3⟩:=VT 10 0 0 (by omega) h;have hlow':∀ i,i<m->128<=l.getD i 0:=fun i hi=>hlow i (by omega) hi;have hat:=z2T (show m<=9 by omega) hmn hlow' h1 h2 h3;obtain⟨t,ht⟩:∃ t:Nat,l.getD m 0=(t:Int):=⟨(l.getD m 0).toNat,by have:=hr m;omega⟩
 have hd:=X0 l;have hvl:=jP hd m;obtain⟨Z,hZ⟩:∃ Z:Nat,Z=VAL (DIG l) m+t*128 ^ m:=⟨_,rfl⟩
 have hZ64:Z<2 ^ 64:=by
  by_cases h9:m=9
  ·subst h9
   omega
  ·have h8:=Nat.pow_le_pow_right (n:=128) (by decide) (show m<=8 by omega)
   have h5:t*128 ^ m<=127*128 ^ 8:=Nat.mul_le_mul (by omega) h8;omega
 have htop:Z / 128 ^ m=t:=by rw[hZ,z1K hd]
 have hdig:∀ i,i<m->Z / 128 ^ i % 128=DIG l i:=fun i hi=>by rw[hZ,vV hd m t i hi]
 have hN:NTOP Z=m:=by
  refine XF hZ64 (fun i hi=>?_) (by rw[htop];omega);have ht1:1<=t:=by omega
  have h6:Z / 128 ^ i / 128 ^ (m - i)=t:=by rw[Nat.div_div_eq_div_mul,<-Nat.pow_add,show i+(m - i)=m by omega,htop]
  have h7:128 ^ (m - i)<=Z / 128 ^ i:=by
   rcases Nat.lt_or_ge (Z / 128 ^ i) (128 ^ (m - i)) with h8 | h8
   ·rw[Nat.div_eq_of_lt h8] at h6
    omega
   ·exact h8
  have h8:=Nat.pow_le_pow_right (n:=128) (by decide) (show 1<=m - i by omega);omega
 refine⟨Z,m,hZ64,hmn,by omega,?_,hN,?_⟩
 ·rw[hat,ht,hZ,Int.natCast_add,Int.natCast_mul,Int.natCast_pow]
  rfl
 ·apply List.ext_getElem?
  intro i;by_cases hi:i<m+1
  ·rw[List.getElem?_take_of_lt hi]
   have e1:(zr Z)[i]?=some ((zr Z).getD i 0):=by
    rw[List.getD_eq_getElem?_getD,List.getElem?_eq_getElem (by rw[yZ,hN];exact hi)];rfl
   have e2:l[i]?=some (l.getD i 0):=by
    rw[List.getD_eq_getElem?_getD,List.getElem?_eq_getElem (by omega)];rfl
   rw[e1,e2];congr 1
   by_cases him:i=m
   ·subst him
    rw[<-hN,Gc,hN,htop,ht]
   ·rw[mD (by omega),hdig i (by omega)]
    have:=hlow' i (by omega);have:=hr i;unfold DIG;omega
  ·rw[List.getElem?_eq_none (by rw[yZ,hN];omega),List.getElem?_eq_none (by rw[List.length_take];omega)]
theorem Bytes.rest{w:World}{b off n:Nat}{l:List Int}(h:Bytes w (some ⟨b,off,none⟩) n l)(k:Nat)(hk:k<=n):Bytes w (some ⟨b,off+k,none⟩) (n - k) (l.drop k):=by
 refine⟨by rw[List.length_drop,h.1],fun hn=>?_,fun x hx=>h.2.2 x (List.mem_of_mem_drop hx)⟩;obtain⟨b',o',e,hl,hc⟩:=h.2.1 (by omega);simp only[Option.some.injEq,Addr.mk.injEq] at e;obtain⟨rfl,rfl,_⟩:=e;refine⟨b,off+k,rfl,hl,fun i hi=>?_⟩;rw[show off+k+i=off+(k+i) by omega,hc (k+i) (by omega)];congr 2
 rw[List.getD_eq_getElem?_getD,List.getD_eq_getElem?_getD,List.getElem?_drop]
def REST(b off c k:Nat):Option Addr:=if c=k then some ⟨b,off,none⟩ else some ⟨b,off+k,none⟩
theorem Bytes.behind{w:World}{b off n c:Nat}{l:List Int}(h:Bytes w (some ⟨b,off,none⟩) n l)(k:Nat)(hk:k<=n)(hc:n<=c):Bytes w (REST b off c k) (n - k) (l.drop k):=by
 unfold REST;split
 ·have h0:n - k=0:=by omega
  rw[h0];refine⟨?_,fun h=>by omega,fun x hx=>h.2.2 x (List.mem_of_mem_drop hx)⟩;rw[List.length_drop,h.1,h0]
 ·exact h.rest k hk
def LNG(t:List Int):Int × Int × Int:=LG t t.length 10 0 0
theorem qP{t:List Int}(hr:∀ x∈t,0<=x/\x<=255)(h:(LNG t).2.2=0):∃ Z m:Nat,Z<2 ^ 64/\1<=m/\m<=t.length/\LNG t=((Z:Int),(m:Int),0)/\zr Z=t.take m:=by
 have hr':∀ i,0<=t.getD i 0/\t.getD i 0<=255:=fun i=>by
  by_cases hi:i<t.length
  ·rw[List.getD_eq_getElem?_getD,List.getElem?_eq_getElem hi]
   exact hr _ (List.getElem_mem hi)
  ·rw[List.getD_eq_getElem?_getD,List.getElem?_eq_none (by omega)]
   simp
 obtain⟨Z,m,h1,h2,h3,h4,h5,h6⟩:=z1L (l:=t) rfl hr' h;exact⟨Z,m+1,h1,by omega,by omega,by unfold LNG;rw[h4];simp,h6⟩
theorem XM{l k:List Int}{n:Nat}(hl:l.length=32*n)(hk:k.length=32*n)(h:∀ i,i<n->HSH l i=HSH k i):l=k:=by
 have e:∀ i,i<=n->l.take (32*i)=k.take (32*i):=by
  intro i;induction i with
  | zero=>intro _;simp
  | succ i ih=>intro hi;rw[ZE,ZE,ih (by omega),h i (by omega)]
 have:=e n (Nat.le_refl _);rwa [List.take_of_length_le (by omega),List.take_of_length_le (by omega)] at this
@[go_sem] def SHOPSq0:Oper:=⟨some 17,.move (.tmp 0),26,"ref.go:176",#[],none⟩
@[go_sem] def SHOPSq1:Oper:=⟨some 18,.move (.tmp 5),3,"ref.go:176",#[],none⟩
@[go_sem] def SHOPSq2:Oper:=⟨some 19,.indexAddr 26 (.tmp 17) (.tmp 18),0,"ref.go:176",#[⟨0,.data⟩,⟨1,.data⟩],none⟩
@[go_sem] def SHOPSq3:Oper:=⟨some 20,.load 23 (.tmp 19),23,"ref.go:176",#[⟨2,.data⟩],none⟩
@[go_sem] def SHOPSq4:Oper:=⟨some 21,.move (.tmp 1),26,"ref.go:176",#[],none⟩
@[go_sem] def SHOPSq5:Oper:=⟨some 22,.move (.tmp 5),3,"ref.go:176",#[],none⟩
@[go_sem] def SHOPSq6:Oper:=⟨some 23,.indexAddr 26 (.tmp 21) (.tmp 22),0,"ref.go:176",#[⟨4,.data⟩,⟨5,.data⟩],none⟩
@[go_sem] def SHOPSq7:Oper:=⟨some 24,.load 23 (.tmp 23),23,"ref.go:176",#[⟨6,.data⟩],none⟩
@[go_sem] def SHOPSq8:Oper:=⟨some 25,.binOp .neq 23 (.tmp 20) (.tmp 24) 23,4,"ref.go:176",#[⟨3,.data⟩,⟨7,.data⟩],none⟩
def Jg:Array Oper:=#[SHOPSq0,SHOPSq1,SHOPSq2,SHOPSq3,SHOPSq4,SHOPSq5,SHOPSq6,SHOPSq7,SHOPSq8]
theorem JX{Q:Exit->Act->World->Prop}(b d e f g j k l o p q r s u x y z A B C D E F:Value)(W:World)(w0:World)(ba oa n ca bb ob m cb i:Nat)(H K:List Int)(hH:H.length=32)(hK:K.length=32)(b1:(i:Int)<(n:Int))(b2:(i:Int)<(m:Int))(hS:(fun W:World=>W.rangeAt ba (oa+i*32) (za H)/\W.rangeAt bb (ob+i*32) (za K)/\Below w0.heap.size w0 W) W)(hQ:∀ c (a:Act) (t:Tmp) (v:Value) w,Q (.panic c) (a.put (some t) v) w->Q (.panic c) a w)
  (h:∀ w,(fun W:World=>W.rangeAt ba (oa+i*32) (za H)/\W.rangeAt bb (ob+i*32) (za K)/\Below w0.heap.size w0 W) w->Q .normal ⟨#[.slice (some ⟨ba,oa,none⟩) n ca,.slice (some ⟨bb,ob,none⟩) m cb,b,d,e,.int .i64 (i:Int),f,g,j,k,l,o,p,q,r,s,u,.slice (some ⟨ba,oa,none⟩) n ca,.int .i64 (i:Int),.pointer (some ⟨ba,oa+i*32,none⟩),.agg (za H).toArray,.slice (some ⟨bb,ob,none⟩) m cb,.int .i64 (i:Int),.pointer (some ⟨bb,ob+i*32,none⟩),.agg (za K).toArray,.bool (!decide (H=K))],[]⟩ w):(Code.region 6 Jg true).wp Tryz.prog Q ⟨#[.slice (some ⟨ba,oa,none⟩) n ca,.slice (some ⟨bb,ob,none⟩) m cb,b,d,e,.int .i64 (i:Int),f,g,j,k,l,o,p,q,r,s,u,x,y,z,A,B,C,D,E,F],[]⟩ W:=by
 have hs0:(fun W:World=>W.rangeAt ba (oa+i*32) (za H)/\W.rangeAt bb (ob+i*32) (za K)/\Below w0.heap.size w0 W) W.drew:=⟨hS.1,hS.2.1,hS.2.2.drew⟩
 have k0:∀ w,(fun W:World=>W.rangeAt ba (oa+i*32) (za H)/\W.rangeAt bb (ob+i*32) (za K)/\Below w0.heap.size w0 W) w->wpAnyH Tryz.prog .any Jg Q (fun W:World=>W.rangeAt ba (oa+i*32) (za H)/\W.rangeAt bb (ob+i*32) (za K)/\Below w0.heap.size w0 W) 9 #[ff,ff,ff,ff,ff,ff,ff,ff,ff] ⟨#[.slice (some ⟨ba,oa,none⟩) n ca,.slice (some ⟨bb,ob,none⟩) m cb,b,d,e,.int .i64 (i:Int),f,g,j,k,l,o,p,q,r,s,u,x,y,z,A,B,C,D,E,F],[]⟩ w:=fun w hw=>by
  have hww:(fun W:World=>W.rangeAt ba (oa+i*32) (za H)/\W.rangeAt bb (ob+i*32) (za K)/\Below w0.heap.size w0 W) w:=hw;have last:wpAnyH Tryz.prog .any Jg Q (fun W:World=>W.rangeAt ba (oa+i*32) (za H)/\W.rangeAt bb (ob+i*32) (za K)/\Below w0.heap.size w0 W) 0 #[tt,tt,tt,tt,tt,tt,tt,tt,tt] ⟨#[.slice (some ⟨ba,oa,none⟩) n ca,.slice (some ⟨bb,ob,none⟩) m cb,b,d,e,.int .i64 (i:Int),f,g,j,k,l,o,p,q,r,s,u,.slice (some ⟨ba,oa,none⟩) n ca,.int .i64 (i:Int),.pointer (some ⟨ba,oa+i*32,none⟩),.agg (za H).toArray,.slice (some ⟨bb,ob,none⟩) m cb,.int .i64 (i:Int),.pointer (some ⟨bb,ob+i*32,none⟩),.agg (za K).toArray,.bool (!decide (H=K))],[]⟩ w:=wpAnyH_done (by kernel_rfl) (h w hw) _;refine tkP SHOPSq0 (.slice (some ⟨ba,oa,none⟩) n ca) 0 hQ hww ?_;simp only[List.set];refine tkP SHOPSq1 (.int .i64 (i:Int)) 1 hQ hww ?_;simp only[List.set];refine tkP SHOPSq2 (.pointer (some ⟨ba,oa+i*32,none⟩)) 2 hQ hww ?_;simp only[List.set];refine tkH SHOPSq3 (.agg (za H).toArray) 3 hQ (yieldsIf_load_mid (by rfl) 23 (.tmp 19) rfl ba (oa+i*32) rfl (za H) _ (fun w h=>h.1) Tryz.underlying23 rfl (zo hH)) hww ?_;simp only[List.set];refine tkP SHOPSq4 (.slice (some ⟨bb,ob,none⟩) m cb) 4 hQ hww ?_;simp only[List.set];refine tkP SHOPSq5 (.int .i64 (i:Int)) 5 hQ hww ?_;simp only[List.set];refine tkP SHOPSq6 (.pointer (some ⟨bb,ob+i*32,none⟩)) 6 hQ hww ?_;simp only[List.set]
  refine tkH SHOPSq7 (.agg (za K).toArray) 7 hQ (yieldsIf_load_mid (by rfl) 23 (.tmp 23) rfl bb (ob+i*32) rfl (za K) _ (fun w h=>h.2.1) Tryz.underlying23 rfl (zo hK)) hww ?_;simp only[List.set];refine tkH SHOPSq8 (.bool (!decide (H=K))) 8 hQ (Yields.yieldsIf (Or.inl ⟨by rfl,fun W=>xS (vi hH hK _ _ W)⟩)) hww ?_;simp only[List.set];exact last
 exact wp_region_held_drew (S:=(fun W:World=>W.rangeAt ba (oa+i*32) (za H)/\W.rangeAt bb (ob+i*32) (za K)/\Below w0.heap.size w0 W)) (by kernel_rfl) hs0 (fun _=>k0 _ hs0)
theorem Jp(a b:Option Addr)(n m ca cb:Nat)(l k:List Int)(w:World)(hA:Flat w a n l)(hB:Flat w b m k)(hn:n<=1000000):
  Calls Tryz.prog 4 #[.slice a n ca,.slice b m cb] w fun e w'=>e=.returned (.bool (decide (l=k)))/\Below w.heap.size w w':=by
 by_cases hnm:n=m
 ·subst hnm
  rcases Nat.eq_zero_or_pos n with h | h
  ·subst h
   have hd:decide (l=k)=true:=by
    rw[List.eq_nil_of_length_eq_zero hA.1,List.eq_nil_of_length_eq_zero hB.1];rfl
   rw[hd];clear hA hB hd;go_enter Tryz.func4,Tryz.ntmps4;go_wp2;refine wp_loop_rounds 1 ?_;rw[rounds_succ];go_wp2;go_ret;exact⟨rfl,Below.refl _ _⟩
  ·obtain⟨ba,oa,rfl,la,hca⟩:=hA.2.1 h
   obtain⟨bb,ob,rfl,lb,hcb⟩:=hB.2.1 h;have HC:Aside (Flat w (some ⟨ba,oa,none⟩) n l/\Flat w (some ⟨bb,ob,none⟩) n k/\n<=1000000):=⟨hA,hB,hn⟩
   clear hA hB hca hcb la lb hn;obtain⟨D,hD⟩:∃ D,D=decide (l=k):=⟨_,rfl⟩
   rw[<-hD];have HD:Aside (D=decide (l=k)):=hD;clear hD;go_enter Tryz.func4,Tryz.ntmps4;go_wp2;go_loopg [5] n (fun g s5 wx=>∃ i:Nat,s5=.int .i64 i/\Aside (i+g=n/\Below w.heap.size w wx/\∀ j,j<i->HSH l j=HSH k j))
   case atStart=>exact⟨0,rfl,by omega,Below.refl _ _,fun j hj=>by omega⟩
   case round=>
    obtain⟨i,rfl,A⟩:=hrel;cases gk with
    | zero=>
      obtain rfl:i=n:=by have:=A.out.1;omega
      have hlt:¬ (i:Int)<(i:Int):=by omega
      have hd:Aside (D=true):=by
       show D=true;rw[HD.out,decide_eq_true_iff];exact XM HC.out.1.1 HC.out.2.1.1 A.out.2.2
      clear HD HC;go_wp2;go_ret;exact⟨by rw[hd.out];rfl,A.out.2.1⟩
    | succ g=>
      obtain⟨hig,hbel,hbef⟩:=A.out;have hlt:(i:Int)<(n:Int):=by omega
      have r1:=(HC.out.1.below hbel).at (show i<n by omega)
      have r2:=(HC.out.2.1.below hbel).at (show i<n by omega)
      have l1:=yq HC.out.1.1 (show i<n by omega);have l2:=yq HC.out.2.1.1 (show i<n by omega);have E1:Aside (wrap64 ((i:Int)+1)=((i+1:Nat):Int)):=by have:=HC.out.2.2;show wrap64 ((i:Int)+1)=((i+1:Nat):Int);unfold wrap64;omega
      by_cases he:HSH l i=HSH k i
      ·have B:Aside (i+1+g=n/\∀ j,j<i+1->HSH l j=HSH k j):=⟨by omega,fun j hj=>by
        by_cases e:j=i
        ·rw[e];exact he
        ·exact hbef j (by omega)⟩
       have hdf:(!decide (HSH l i=HSH k i))=false:=by rw[he];simp
       have Z:Aside (Below w.heap.size w wr):=hbel;clear he hig hbel hbef A HD HC;generalize HSH l i=H at *
       generalize HSH k i=K at *
       go_upto_region 6 with fail
       refine JX _ _ _ _ _ _ _ _ _ _ _ _ _ _ _ _ _ _ _ _ _ _ _ _ w ba oa n ca bb ob n cb i H K l1 l2 hlt hlt ⟨r1,r2,Z.out⟩ (fun _ _ _ _ _ h=>h) ?_;rintro w1 ⟨_,_,q3⟩;rw[hdf];clear r1 r2 l1 l2 hdf;have Z2:Aside (Below w.heap.size w w1):=q3;clear q3 Z;have e1:=E1.out;go_wp2;go_roundg g
       case measure=>exact Nat.lt_succ_self _
       case rel=>exact⟨i+1,by first | rfl | (rw[E1.out]),B.out.1,Z2.out,B.out.2⟩
      ·have hd:Aside (D=false):=by
        show D=false;rw[HD.out,decide_eq_false_iff_not];intro e;rw[e] at he;exact he rfl
       have hdf:(!decide (HSH l i=HSH k i))=true:=by simp[he]
       have Z:Aside (Below w.heap.size w wr):=hbel;clear he hig hbel hbef A HD HC E1;generalize HSH l i=H at *
       generalize HSH k i=K at *
       go_upto_region 6 with fail
       refine JX _ _ _ _ _ _ _ _ _ _ _ _ _ _ _ _ _ _ _ _ _ _ _ _ w ba oa n ca bb ob n cb i H K l1 l2 hlt hlt ⟨r1,r2,Z.out⟩ (fun _ _ _ _ _ h=>h) ?_;rintro w1 ⟨_,_,q3⟩;rw[hdf];clear r1 r2 l1 l2 hdf;have Z2:Aside (Below w.heap.size w w1):=q3;clear q3 Z;go_wp2;go_ret;exact⟨by rw[hd.out];rfl,Z2.out⟩
 ·have hne:¬ (n:Int)=(m:Int):=by omega
  have hd:decide (l=k)=false:=by
   rw[decide_eq_false_iff_not];intro e;rw[e] at hA;have:=hA.1.symm.trans hB.1;omega
  rw[hd];clear hA hB hd;go_enter Tryz.func4,Tryz.ntmps4;go_wp2;go_ret;exact⟨rfl,Below.refl _ _⟩
theorem mE{w:World}{base g n cap:Nat}{l:List Int}{x:Int}(h:w.ownsRow base 5 1 (.slice (some ⟨g,0,none⟩) (n+1) cap) (n+1) (za (l ++ [x])))(hl:l.length=n):w.ownsRow base 5 1 (.slice (some ⟨g,0,none⟩) n cap) n (za l)/\n+1<=cap/\w.cell? ⟨g,n,none⟩=some (.int .u8 x):=by
 have hc:=h.cellAt n (by omega)
 have hx:(za (l ++ [x]))[n]?=some (.int .u8 x):=by
  rw[<-hl];simp[za]
 rcases h.2 with ⟨e,_⟩ | ⟨g',cap',cur,e,hb,hg,h1,h2,h3,h4⟩
 ·cases e
 ·cases e
  refine⟨⟨by rw[za,List.length_map,hl,Nat.mul_one],.inr ⟨g,cap,cur,rfl,hb,hg,by omega,h2,h3,?_⟩⟩,h1,hc.trans hx⟩;have h5:=congrArg (List.take (n*1)) h4;rw[List.take_take,show min (n*1) ((n+1)*1)=n*1 by omega] at h5;rw[h5,yp,List.take_left' (by rw[za,List.length_map,hl,Nat.mul_one])]
def z2q(w:World)(n:Nat)(l:List Int)(e:Ending)(w':World):Prop:=
 ∃ g cap,e=.returned (.slice (some ⟨g,0,none⟩) n cap)/\w'.ownsRow w.heap.size 5 1 (.slice (some ⟨g,0,none⟩) n cap) n (za l)/\n+1<=cap/\w'.cell? ⟨g,n,none⟩=some (.int .u8 171)/\g<w'.heap.size/\Below w.heap.size w w'
end Go.Proofs.YtobaogpomcocpaaGreatDoor
