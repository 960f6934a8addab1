/- ManyClashes: part 6. -/
import Derived.ChangeKeysEq
import Derived.Test.YtobaogpomcocpaaGreatDoorManyClashesP5
set_option maxRecDepth 100000
set_option maxHeartbeats 1000000
open Go.RowKit
namespace Go.Proofs.YtobaogpomcocpaaGreatDoor
namespace HX
def INTS(l:List Nat):List Int:=l.map fun(x:Nat)=>(x:Int)
theorem jy(l:List Nat)(i:Nat):(INTS l).getD i 0=((l.getD i 0:Nat):Int):=by
 unfold INTS;rw[List.getD_eq_getElem?_getD,List.getElem?_map,List.getD_eq_getElem?_getD];cases l[i]? <;> rfl
theorem Text.bytes{w:World}{a:Option Addr}{n:Nat}{l:List Nat}(h:Text w a n l):Bytes w a n (INTS l):=
 ⟨by rw[INTS,List.length_map];exact h.1,fun hn=>by
  obtain⟨b,off,e,hl,hc⟩:=h.2.1 hn;exact⟨b,off,e,hl,fun i hi=>by rw[jy];exact hc i hi⟩,fun x hx=>by
  obtain⟨y,hy,rfl⟩:=List.mem_map.1 hx;have:=h.2.2 y hy;omega⟩
theorem Text.of_bytes{w:World}{a:Option Addr}{n:Nat}{l:List Nat}(h:Bytes w a n (INTS l)):Text w a n l:=
 ⟨by have:=h.1;rwa [INTS,List.length_map] at this,fun hn=>by
  obtain⟨b,off,e,hl,hc⟩:=h.2.1 hn;exact⟨b,off,e,hl,fun i hi=>by rw[<-jy];exact hc i hi⟩,fun x hx=>by
  have:=h.2.2 (x:Int) (List.mem_map.2 ⟨x,hx,rfl⟩);omega⟩
theorem qo{l:List Nat}(h:Small8 l):∀ x∈INTS l,0<=x/\x<=255:=fun x hx=>by
 obtain⟨y,hy,rfl⟩:=List.mem_map.1 hx;have:=h y hy;omega
theorem JD(a b:List Nat):INTS (a ++ b)=INTS a ++ INTS b:=by simp[INTS]
def BE8(X:Nat):List Nat:=(List.range 8).map fun i=>X / 2 ^ (8*(7 - i)) % 256
def zw(n:Nat):Nat:=(119 - n % 64) % 64
def HEAD(n:Nat):List Nat:=128 :: List.replicate (zw n) 0
def END(n:Nat):List Nat:=HEAD n ++ BE8 (8*n)
theorem YF(X:Nat):(BE8 X).length=8:=by simp[BE8]
theorem JE(n:Nat):(HEAD n).length=zw n+1:=by simp[HEAD]
theorem gr(n:Nat):(END n).length=zw n+9:=by rw[END,List.length_append,JE,YF]
theorem YS(X:Nat):Small8 (BE8 X):=fun x hx=>by
 simp[BE8] at hx;obtain⟨i,_,rfl⟩:=hx;exact Nat.mod_lt _ (by decide)
theorem YT(n:Nat):Small8 (END n):=fun x hx=>by
 rcases List.mem_append.1 hx with hx | hx
 ·rcases List.mem_cons.1 hx with rfl | hx
  ·decide
  ·rw[List.eq_of_mem_replicate hx]
   decide
 ·exact YS _ x hx
theorem kN(n:Nat):(IntKind.u64.wrap (55 - (n:Int))).tmod 64=((zw n:Nat):Int):=by
 unfold zw;rw[zh];rw[Int.tmod_eq_emod_of_nonneg (by omega)];omega
theorem MP(n i:Nat):(HEAD n).getD i 0=if i=0 then 128 else 0:=by
 unfold HEAD;cases i with
 | zero=>rfl
 | succ i=>
   rw[if_neg (by omega)];show (List.replicate (zw n) 0).getD i 0=0;rw[List.getD_eq_getElem?_getD,List.getElem?_replicate];split <;> rfl
theorem ve(X:Nat)(hX:X<2 ^ 64)(w:World):Calls Tryz.prog 118 #[.int .u64 (X:Int)] w fun e w'=>e=.returned (.slice (some ⟨w.heap.size,0,none⟩) 8 8)/\w.alloc (.cells (BARR 8 (BYTE X 8)) 5)=w':=by
 have cb:∀ w,Calls Tryz.prog 137 #[.int .u64 (X:Int),.int .i64 8] w fun e w'=>e=.returned (.tuple #[.slice (some ⟨w.heap.size,0,none⟩) 8 8,.int .i64 0])/\w.alloc (.cells (BARR 8 (BYTE X 8)) 5)=w':=fun w=>z2e X 8 hX (by decide) (Nat.div_eq_of_lt hX) w;clear hX;go_enter Tryz.func118,Tryz.ntmps118;go_wp2_with fail
 refine(cb _).mono ?_;rintro e w' ⟨rfl,rfl⟩;go_wp2;go_ret;exact⟨rfl,rfl⟩
theorem MQ{w:World}{base g m k:Nat}{f:Nat->Int}{xs:List Int}(h:Has w g (BARR k f) 5)(hb:base<=g)(hm:m<=k)(hk:k<=1000)(hx:xs.length=m)(hf:∀ i,i<m->f i=xs.getD i 0):w.ownsRow base 5 1 (.slice (some ⟨g,0,none⟩) m k) m (za xs):=by
 refine⟨by simp[za,hx],Or.inr ⟨g,k,BARR k f,rfl,hb,h,hm,by simp only[maxLen];omega,by rw[qD];omega,?_⟩⟩;rw[Nat.mul_one];apply List.ext_getElem?;intro i;by_cases hi:i<m
 ·rw[zN _ _ (by omega),List.getElem?_take_of_lt hi]
  have:=qJ k f i (by omega);rw[<-Array.getElem?_toList] at this;rw[this,hf i hi]
 ·rw[List.getElem?_eq_none (by rw[List.length_take];omega),List.getElem?_eq_none (by simp[za];omega)]
theorem G3(n:Nat)(hn:n<2 ^ 60)(w:World):Calls Tryz.prog 99 #[.int .u64 (n:Int)] w fun e w'=>
  ∃ a c,e=.returned (.slice a (zw n+9) c)/\Text w' a (zw n+9) (END n)/\zw n+9<=c/\(∀ x,a=some x->w.heap.size<=x.block)/\Below w.heap.size w w':=by
 have hN:=kN n;obtain⟨m,hm⟩:∃ m,m=zw n+1:=⟨_,rfl⟩
 have hz:zw n<64:=Nat.mod_lt _ (by decide);have hw1:IntKind.u64.wrap (1+((zw n:Nat):Int))=(m:Int):=by rw[zh];omega
 have hmk:∀ w:World,(Instr.makeSlice 27 (.int .u64 (m:Int)) (.int .i64 73)).run Tryz.prog w=.ok (.slice (some ⟨w.heap.size,0,none⟩) m 73) (w.alloc (.cells (BARR 73 fun _=>0) 5)):=fun w=>by
  obtain⟨i8,hi,h8⟩:=Option.map_eq_some_iff.1 zU;simp only[Prod.mk.injEq] at h8;have h:=run_make (P:=Tryz.prog) w 27 5 i8 (.int .u8 0) Tryz.underlying27 hi h8.1 .u64 .i64 (m:Int) 73 (by omega) (by omega) (by rw[h8.2.2];decide) (by decide);rw[h8.2.1] at h;have e:madeCells (Value.int .u8 0).cells (((73:Int).toNat)*1)=BARR 73 fun _=>0:=YQ 73;rw[e] at h;exact h
 have hX:IntKind.u64.wrap (8*(n:Int))=((8*n:Nat):Int):=by rw[zh];omega
 have ci:=ve (8*n) (by omega);generalize hx8:8*n=X at *
 have H:Aside (8*n=X/\m=zw n+1/\zw n<64):=⟨hx8,hm,hz⟩
 have hm0:(0:Int)<(m:Int):=by omega
 clear hx8 hm hz hn;generalize hz2:zw n=z at *
 have HZ:Aside (zw n=z):=hz2;clear hz2;go_enter Tryz.func99,Tryz.ntmps99;go_wp2_with fail
 refine(ci _).mono ?_;rintro e w1 ⟨rfl,rfl⟩;clear ci;have e0:(BARR 73 fun _=>0).setIfInBounds 0 (Value.int .u8 128)=BARR 73 fun j=>if j=0 then 128 else 0:=Vv 73 _ 0 128;rw[e0];clear e0;have hH:Has ((w.alloc (.cells (BARR 73 fun j=>if j=0 then 128 else 0) 5)).alloc (.cells (BARR 8 (BYTE X 8)) 5)) w.heap.size (BARR 73 fun j=>if j=0 then 128 else 0) 5:=(Has.new w _ _).alloc _
 have hO:((w.alloc (.cells (BARR 73 fun j=>if j=0 then 128 else 0) 5)).alloc (.cells (BARR 8 (BYTE X 8)) 5)).ownsRow w.heap.size 5 1 (.slice (some ⟨w.heap.size,0,none⟩) m 73) m (za (INTS (HEAD n))):=by
  refine MQ hH (Nat.le_refl _) (by have:=H.out;omega) (by decide) (by rw[INTS,List.length_map,JE,HZ.out];exact H.out.2.1.symm) (fun i _=>?_);rw[jy,MP];split <;> rfl
 have hT:Bytes ((w.alloc (.cells (BARR 73 fun j=>if j=0 then 128 else 0) 5)).alloc (.cells (BARR 8 (BYTE X 8)) 5)) (some ⟨w.heap.size+1,0,none⟩) 8 (INTS (BE8 X)):=by
  have h:=Zo (w.alloc (.cells (BARR 73 fun j=>if j=0 then 128 else 0) 5)) 8 (BYTE X 8) (INTS (BE8 X)) (by rw[INTS,List.length_map,YF]) (fun i hi=>by
   rw[jy];unfold BYTE BE8;rw[List.getD_eq_getElem?_getD,List.getElem?_map,List.getElem?_range hi];rfl) (qo (YS X))
  have e:(w.alloc (.cells (BARR 73 fun j=>if j=0 then 128 else 0) 5)).heap.size=w.heap.size+1:=by simp
  rw[e] at h;exact h
 have hB:Below w.heap.size w ((w.alloc (.cells (BARR 73 fun j=>if j=0 then 128 else 0) 5)).alloc (.cells (BARR 8 (BYTE X 8)) 5)):=((Below.refl _ _).alloc (Nat.le_refl _) _).alloc (by simp) _;have R:Aside (_/\_/\_):=⟨hO,hT,hB⟩
 clear hH hO hT hB;go_wp2_with (at_builtin;refine zM _ rfl (.tmp 13) (.tmp 16) rfl w.heap.size (.slice (some ⟨w.heap.size,0,none⟩) m 73) m (INTS (HEAD n)) rfl R.out.1 (w.heap.size+1) 0 8 8 (INTS (BE8 X)) rfl R.out.2.1 (by decide) (by have:=H.out;omega) (by simp;omega) ?_;intro g cap w' hown hgrow hg)
 have hb2:Below w.heap.size w w':=R.out.2.2.grown hgrow (by simp;omega) (fun k e=>by simp[Value.ownBlock] at e;omega)
 have hge:w.heap.size<=g:=by
  rcases hown.2 with ⟨h,_⟩ | ⟨g2,c2,cur,h,hle,_⟩
  ·simp at h
  ·simp only[Value.slice.injEq,Option.some.injEq,Addr.mk.injEq] at h
   omega
 rw[<-JD,<-H.out.1] at hown;have hown2:w'.ownsRow w.heap.size 5 1 (.slice (some ⟨g,0,none⟩) (m+8) cap) (m+8) (za (INTS (END n))):=hown;obtain⟨hby,hle⟩:=jW hown2 (qo (YT n));have S:Aside (Bytes w' (some ⟨g,0,none⟩) (m+8) (INTS (END n))/\m+8<=cap/\w.heap.size<=g/\Below w.heap.size w w'):=⟨hby,hle,hge,hb2⟩
 clear hb2 hge hown hown2 hby hle hgrow hg R;go_wp2;go_ret;obtain⟨s1,s2,s3,s4⟩:=S.out;have e:m+8=z+9:=by have:=H.out;omega
 rw[e] at s1 s2;refine⟨some ⟨g,0,none⟩,cap,?_,Text.of_bytes s1,s2,fun x hx=>by simp only[Option.some.injEq] at hx;rw[<-hx];exact s3,s4⟩;rw[<-e];rfl
theorem MS(i:Nat):BEGIN.getD i 0<2 ^ 32:=by
 by_cases h:i<8
 ·have:∀ j,j<8->BEGIN.getD j 0<2 ^ 32:=by decide
  exact this i h
 ·have:BEGIN.length=8:=rfl
  rw[List.getD_eq_getElem?_getD,List.getElem?_eq_none (by omega)];decide
theorem Tabled.begin{w:World}(h:Tabled w):w.rangeAt 0 0 (zi .u32 8 fun i=>BEGIN.getD i 0):=fun j v hv=>by
 have hj:j<8:=by have:=(List.getElem?_eq_some_iff.1 hv).1;rw[zD] at this;exact this
 rw[xu _ _ _ _ hj] at hv;rw[Nat.zero_add,h.2.1 j hj,hv]
theorem MT(d:Int)(w:World)(hT:Tabled w):Calls Tryz.prog 97 #[.int .i64 d] w fun e w'=>e=.returned (.agg (UARR .u8 32 (yN d)))/\Below w.heap.size w w':=by
 have hz:=zZ;have cj:=vI (fun i=>BEGIN.getD i 0) MS;have cn:=vJ d (zj fun i=>BEGIN.getD i 0);have HT:Aside (Tabled w):=hT;clear hT;go_enter Tryz.func97,Tryz.ntmps97
 go_wp2_with (first
  | (refine wpList_load_mid rfl 156 _ rfl 0 0 rfl (zi .u32 8 fun i=>BEGIN.getD i 0) _ (World.rangeAt_alloc HT.out.begin _) Tryz.underlying156 rfl (by rw[zD];exact ur) ?_))
 rw[<-zS];refine(cj _).mono ?_;rintro e w1 ⟨rfl,hb1⟩;clear cj;have R:Aside (Below w.heap.size w w1/\Has w1 w.heap.size (UARR .u8 32 fun _=>0) 23):=⟨((Below.refl _ _).alloc (Nat.le_refl _) _).trans (hb1.mono (by simp)),(Has.new w _ _).keep hb1⟩
 clear hb1;go_wp2_with fail
 refine(cn _).mono ?_;rintro e w2 ⟨rfl,hb2⟩;clear cn;have Q:Aside (Below w.heap.size w w2/\Has w2 w.heap.size (UARR .u8 32 fun _=>0) 23):=⟨R.out.1.trans (hb2.mono R.out.1.size),R.out.2.keep hb2⟩
 clear R hb2 hz
 go_wp2_with (first
  | (refine wpList_store_row rfl 23 _ _ rfl _ _ rfl rfl _ _ Q.out.2 (zn _) (by rw[zg,zg]) (zA _ _ _) ?_))
 refine bodyPost_ret (v:=.agg (UARR .u8 32 (yN d))) ?_ rfl ⟨rfl,zm Q.out.1 (Nat.le_refl _) _⟩;exact results_cell_row rfl _ _ w.heap.size 23 _ (0,0) _ rfl (Q.out.2.row _) Tryz.underlying23 rfl (zn _)
theorem UW(w:World)(o:Obj)(c c':Array Value)(t:TypeId):((w.alloc o).alloc (.cells c t)).setRow (w.heap.size+1) c'=(w.alloc o).alloc (.cells c' t):=by
 have e:(w.alloc o).heap.size=w.heap.size+1:=by simp
 rw[<-e];exact World.setRow_alloc_new _ _ _ _
theorem z2f(d:Int)(w:World)(hT:Tabled w):Calls Tryz.prog 59 #[.int .i64 d] w fun e w'=>∃ g,e=.returned (.pointer (some ⟨g,0,none⟩))/\w.heap.size<=g/\HASHER w' g d []/\Below w.heap.size w w':=by
 have cf:=fun w (h:Tabled w)=>MT d w h;have HT:Aside (Tabled w):=hT;clear hT;go_enter Tryz.func59,Tryz.ntmps59;go_wp2_with fail
 refine(cf _ (by exact HT.out)).mono ?_;rintro e w1 ⟨rfl,hb1⟩;clear cf;have R:Aside (Below w.heap.size w w1):=hb1;clear hb1;go_wp2_with (first | (refine wpList_build rfl 134 _ rfl (by kernel_rfl) ?_;generalize hc:Option.getD (Tryz.prog.built 134 _) #[]=C;obtain rfl:HARR d (yN d) (fun _=>0) 0=C:=by {rw[<-hc];kernel_rfl};clear hc))
 go_ret;refine⟨w1.heap.size,rfl,R.out.size,⟨fun _=>0,Has.new _ _ _,fun _=>(by decide:(0:Nat)<256),fun i hi=>?_⟩,R.out.alloc R.out.size _⟩;simp at hi
theorem kO:∀ w,(zeroValue 134).run Tryz.prog w=.ok (.agg (HARR 0 (fun _=>0) (fun _=>0) 0)) w:=(zero_of_info (P:=Tryz.prog) (n:=98) (by kernel_rfl)).1
def zu(d:Int)(l:List Nat):Nat->Nat:=zv d (l ++ END l.length) ((l ++ END l.length).length / 64)
theorem z1o(g:Nat)(d:Int)(l:List Nat)(w:World)(hH:HASHER w g d l)(hT:Tabled w)(hl:Small8 l)(hlen:l.length<2 ^ 60):Calls Tryz.prog 61 #[.pointer (some ⟨g,0,none⟩)] w fun e w'=>e=.returned (.agg (UARR .u8 32 (zu d l)))/\Below w.heap.size w w':=by
 have hz:=zZ;have hz98:=kO;obtain⟨b,hHas,hb8,hbl⟩:=hH;have ce:=G3 l.length hlen;have H:Aside (Tabled w/\Small8 l/\l.length<2 ^ 60/\Has w g (HARR d (zv d l (l.length / 64)) b l.length) 134/\(∀ i,b i<256)/\∀ i,i<l.length % 64->b i=l.getD (64*(l.length / 64)+i) 0):=⟨hT,hl,hlen,hHas,hb8,hbl⟩
 have ct:((w.alloc (.cells (UARR .u8 32 fun _=>0) 23)).alloc (.cells (HARR d (zv d l (l.length / 64)) b l.length) 134)).cell? ⟨g,97,none⟩=some (.int .u64 (l.length:Nat)):=by rw[((hHas.alloc _).alloc _).cell,YE]
 clear hT hl hlen hHas hb8 hbl;go_enter Tryz.func61,Tryz.ntmps61
 go_wp2_with (first
  | (refine wpList_load_row rfl 134 _ rfl _ rfl 134 (HARR d (zv d l (l.length / 64)) b l.length) (0,0) _ (H.out.2.2.2.1.alloc _) Tryz.underlying134 rfl (JB _ _ _ _) ?_)
  | (refine wpList_store_row rfl 134 _ _ rfl _ _ rfl rfl 134 (HARR 0 (fun _=>0) (fun _=>0) 0) (Has.at _ _ _ (by simp)) (JB _ _ _ _) (by rw[yS,yS]) (MO _ _ _ _) ?_;rw[UW]))
 refine(ce _).mono ?_;rintro e w1 ⟨a1,c1,rfl,ht1,hc1,hs1,hb1⟩;clear ce
 have hH1:HASHER w1 (w.heap.size+1) d l:=by
  obtain⟨h1,h2,h3,h4,h5,h6⟩:=H.out;exact⟨b,(Has.at _ _ _ (by simp)).keep hb1,h5,h6⟩
 have hT1:Tabled w1:=(H.out.1.below (((Below.refl _ _).alloc (Nat.le_refl _) _).alloc (by simp) _)).below hb1;have cw:=VC (w.heap.size+1) d l (END l.length) a1 (zw l.length+9) c1 w1 hH1 hT1 (by have:=H.out.1.2.2;omega) ht1 (fun x hx=>by have:=hs1 x hx;simp at this;omega) hc1 H.out.2.1 (by have:=H.out.2.2.1;have:zw l.length<64:=Nat.mod_lt _ (by decide);omega);have R:Aside (Below w.heap.size w w1/\Has w1 w.heap.size (UARR .u8 32 fun _=>0) 23):=⟨(((Below.refl _ _).alloc (Nat.le_refl _) _).alloc (by simp) _).trans (hb1.mono (by simp;omega)),((Has.new w _ _).alloc _).keep hb1⟩
 clear ht1 hc1 hs1 hb1 hH1 hT1 hz hz98;go_wp2_with fail
 refine cw.mono ?_;rintro e w2 ⟨rfl,⟨b2,hH2,_⟩,hG2⟩;clear cw
 have S:Aside (Below w.heap.size w w2/\Has w2 w.heap.size (UARR .u8 32 fun _=>0) 23/\w2.rangeAt (w.heap.size+1) 1 (zi .u8 32 (zu d l))):=
  ⟨R.out.1.grown hG2 R.out.1.size (fun k e=>by simp at e;omega),(hG2.block _ R.out.2.lt (by simp)).trans R.out.2,hH2.state⟩
 clear R hH2 hG2
 go_wp2_with (first
  | (refine wpList_load_mid rfl 23 _ rfl (w.heap.size+1) 1 rfl (zi .u8 32 (zu d l)) _ S.out.2.2 Tryz.underlying23 rfl (by rw[zD];exact yr) ?_;rw[<-zS])
  | (refine wpList_store_row rfl 23 _ _ rfl _ _ rfl rfl _ _ S.out.2.1 (zn _) (by rw[zg,zg]) (zA _ _ _) ?_))
 refine bodyPost_ret (v:=.agg (UARR .u8 32 (zu d l))) ?_ rfl ⟨rfl,zm S.out.1 (Nat.le_refl _) _⟩;exact results_cell_row rfl _ _ w.heap.size 23 _ (0,0) _ rfl (S.out.2.1.row _) Tryz.underlying23 rfl (zn _)
structure PART where
 a:Option Addr
 n:Nat
 c:Nat
 l:List Nat
def Parts(w:World)(a:Option Addr)(k:Nat)(ps:List PART):Prop:=
 ps.length=k/\(0<k->∃ b off,a=some ⟨b,off,none⟩/\b<w.heap.size/\∀ i p,ps[i]?=some p->w.cell? ⟨b,off+i,none⟩=some (.slice p.a p.n p.c))/\∀ p∈ps,Text w p.a p.n p.l/\p.n<=p.c/\∀ x,p.a=some x->x.block<w.heap.size
def JOIN(ps:List PART):List Nat:=(ps.map PART.l).flatten
theorem xw(ps:List PART)(p:PART):JOIN (ps ++ [p])=JOIN ps ++ p.l:=by simp[JOIN]
theorem vf{w:World}{a:Option Addr}{k:Nat}{ps:List PART}(h:Parts w a k ps):∀ qs:List PART,(∀ p∈qs,p∈ps)->Small8 (JOIN qs):=fun qs hq x hx=>by
 obtain⟨y,hy,hx⟩:=List.mem_flatten.1 hx;obtain⟨p,hp,rfl⟩:=List.mem_map.1 hy;exact(h.2.2 p (hq p hp)).1.2.2 x hx
theorem jU(ps:List PART)(k:Nat):(JOIN (ps.take k)).length<=(JOIN ps).length:=by
 have:JOIN ps=JOIN (ps.take k) ++ JOIN (ps.drop k):=by
  unfold JOIN;rw[<-List.flatten_append,<-List.map_append,List.take_append_drop]
 rw[this,List.length_append];omega
theorem Uj(d:Int)(a:Option Addr)(k c:Nat)(ps:List PART)(w:World)(hP:Parts w a k ps)(hT:Tabled w)(hlen:(JOIN ps).length<2 ^ 60)(hkk:k<2 ^ 60):Calls Tryz.prog 31 #[.int .i64 d,.slice a k c] w fun e w'=>e=.returned (.agg (UARR .u8 32 (zu d (JOIN ps))))/\Below w.heap.size w w':=by
 have hz:=zZ;have H:Aside (Parts w a k ps/\Tabled w/\(JOIN ps).length<2 ^ 60):=⟨hP,hT,hlen⟩
 have HK:Aside (k<2 ^ 60):=hkk;have cn:=fun w (h:Tabled w)=>z2f d w h;clear hP hT hlen hkk;go_enter Tryz.func31,Tryz.ntmps31;go_wp2_with fail
 refine(cn _ (H.out.2.1.below ((Below.refl _ _).alloc (Nat.le_refl _) _))).mono ?_;rintro e w1 ⟨g,rfl,hg,hH,hb1⟩;clear cn;have hb:Below w.heap.size w w1:=((Below.refl _ _).alloc (Nat.le_refl _) _).trans (hb1.mono (by simp));have R:Aside (w.heap.size<g/\HASHER w1 g d []/\Below w.heap.size w w1/\Has w1 w.heap.size (UARR .u8 32 fun _=>0) 23):=⟨by simp at hg;omega,hH,hb,(Has.new w _ _).keep hb1⟩
 clear hb hb1 hg hH hz;go_wp2;go_loopg [12] k (fun r s12 wx=>∃ i:Nat,i+r=k/\s12=.int .i64 i/\Aside (HASHER wx g d (JOIN (ps.take i))/\Below w.heap.size w wx/\Has wx w.heap.size (UARR .u8 32 fun _=>0) 23))
 case atStart=>exact⟨0,by omega,rfl,R.out.2.1,R.out.2.2.1,R.out.2.2.2⟩
 case round=>
  obtain⟨i,hir,rfl,A⟩:=hrel;have hk:ps.length=k:=H.out.1.1;cases gk with
  | zero=>
    obtain rfl:i=k:=by omega
    rw[List.take_of_length_le (by omega)] at A;have cs:=z1o g d (JOIN ps) wr A.out.1 (H.out.2.1.below A.out.2.1) (vf H.out.1 ps (fun _ h=>h)) H.out.2.2;clear hk;go_wp2_with fail
    refine cs.mono ?_;rintro e w2 ⟨rfl,hb2⟩;clear cs;have S:Aside (Below w.heap.size w w2/\Has w2 w.heap.size (UARR .u8 32 fun _=>0) 23):=⟨A.out.2.1.trans (hb2.mono A.out.2.1.size),A.out.2.2.keep hb2⟩
    clear A hb2
    go_wp2_with (first
     | (refine wpList_store_row rfl 23 _ _ rfl _ _ rfl rfl _ _ S.out.2 (zn _) (by rw[zg,zg]) (zA _ _ _) ?_))
    refine bodyPost_ret (v:=.agg (UARR .u8 32 (zu d (JOIN ps)))) ?_ rfl ⟨rfl,zm S.out.1 (Nat.le_refl _) _⟩;exact results_cell_row rfl _ _ w.heap.size 23 _ (0,0) _ rfl (S.out.2.row _) Tryz.underlying23 rfl (zn _)
  | succ r=>
    have hlt:(i:Int)<(k:Int):=by omega
    obtain⟨pb,po,rfl,hpb,hcell⟩:=H.out.1.2.1 (by omega);obtain⟨p,hp⟩:∃ p,ps[i]?=some p:=⟨_,List.getElem?_eq_getElem (by omega)⟩
    have hc:=(A.out.2.1.cell (p:=⟨pb,po+i,none⟩) (by exact hpb)).trans (hcell i p hp);obtain⟨ht,hn,hx⟩:=H.out.1.2.2 p (List.mem_of_getElem? hp);have hg:=R.out.1
    have hl2:(JOIN (ps.take i)).length+p.n<2 ^ 60:=by
     have h1:=jU ps (i+1);rw[List.take_add_one,hp,Option.toList_some,xw,List.length_append,ht.1] at h1;have:=H.out.2.2;omega
    have cw:=VC g d (JOIN (ps.take i)) p.l p.a p.n p.c wr A.out.1 (H.out.2.1.below A.out.2.1) (by have:=H.out.2.1.2.2;omega) (ht.below A.out.2.1) (fun x h=>by have:=hx x h;omega) hn (vf H.out.1 _ (fun _ h=>List.mem_of_mem_take h)) (by omega);have S:Aside (ps.take (i+1)=ps.take i ++ [p]/\i+(r+1)=k/\w.heap.size<g):=⟨by rw[List.take_add_one,hp,Option.toList_some],hir,hg⟩
    clear ht hn hx hp hcell hpb hg hl2 hk hir;go_wp2_with fail
    refine cw.mono ?_;rintro e w2 ⟨rfl,hH2,hG2⟩;clear cw;have T:Aside (HASHER w2 g d (JOIN (ps.take i) ++ p.l)/\Below w.heap.size w w2/\Has w2 w.heap.size (UARR .u8 32 fun _=>0) 23):=⟨hH2,A.out.2.1.grown hG2 A.out.2.1.size (fun k e=>by simp at e;have:=S.out.2.2;omega),(hG2.block _ A.out.2.2.lt (by simp;have:=S.out.2.2;omega)).trans A.out.2.2⟩
    clear hH2 hG2 A;go_wp2;go_roundg r
    case measure=>omega
    case rel=>
     refine⟨i+1,by have:=S.out.2.1;omega,by have h1:=HK.out;have h2:wrap64 ((i:Int)+1)=((i+1:Nat):Int):=(by unfold wrap64;omega);rw[h2],?_,T.out.2.1,T.out.2.2⟩;rw[S.out.1,xw];exact T.out.1
theorem G4(q:Nat)(hq:q<=1000000)(w:World):(Instr.makeSlice 27 (.int .i64 0) (.int .i64 (q:Int))).run Tryz.prog w=.ok (.slice (some ⟨w.heap.size,0,none⟩) 0 q) (w.alloc (.cells (BARR q fun _=>0) 5)):=by
 obtain⟨i8,hi,h8⟩:=Option.map_eq_some_iff.1 zU;simp only[Prod.mk.injEq] at h8;have h:=run_make (P:=Tryz.prog) w 27 5 i8 (.int .u8 0) Tryz.underlying27 hi h8.1 .i64 .i64 0 (q:Int) (by omega) (by omega) (by rw[h8.2.2];omega) (by omega);rw[h8.2.1] at h
 have e:madeCells (Value.int .u8 0).cells (((q:Int).toNat)*1)=BARR q fun _=>0:=by
  rw[Int.toNat_natCast,Nat.mul_one];exact YQ q
 rw[e] at h;exact h
theorem G5(w:World)(q:Nat)(hq:q<=1000000):(w.alloc (.cells (BARR q fun _=>0) 5)).ownsRow w.heap.size 5 1 (.slice (some ⟨w.heap.size,0,none⟩) 0 q) 0 (za (INTS [])):=
 ⟨by simp[za,INTS],Or.inr ⟨w.heap.size,q,BARR q fun _=>0,rfl,Nat.le_refl _,Has.new w _ _,Nat.zero_le _,by simp only[maxLen];omega,by rw[qD];omega,by simp[za,INTS]⟩⟩
theorem Parts.at{w:World}{a:Option Addr}{k:Nat}{ps:List PART}(h:Parts w a k ps){i:Nat}(hi:i<k):∃ b off p,a=some ⟨b,off,none⟩/\b<w.heap.size/\ps[i]?=some p/\w.cell? ⟨b,off+i,none⟩=some (.slice p.a p.n p.c)/\Text w p.a p.n p.l/\ps.take (i+1)=ps.take i ++ [p]/\p∈ps:=by
 obtain⟨b,off,e,hl,hc⟩:=h.2.1 (by omega);have hp:ps[i]?=some (ps[i]'(by have:=h.1;omega)):=List.getElem?_eq_getElem _;exact⟨b,off,_,e,hl,hp,hc i _ hp,(h.2.2 _ (List.mem_of_getElem? hp)).1,by rw[List.take_add_one,hp,Option.toList_some],List.mem_of_getElem? hp⟩
theorem XE(o:Nat)(ho:o<256)(a:Option Addr)(k c:Nat)(ps:List PART)(w:World)(hP:Parts w a k ps)(hnone:∀ p∈ps,p.a=none->p.c=0)(hlen:(JOIN ps).length<5000)(hkk:k<2 ^ 40):Calls Tryz.prog 46 #[.int .u8 (o:Int),.slice a k c] w fun e w'=>
    ∃ a' c',e=.returned (.slice a' ((JOIN ps).length+1) c')/\w'.ownsRow w.heap.size 5 1 (.slice a' ((JOIN ps).length+1) c') ((JOIN ps).length+1) (za (INTS (o :: JOIN ps)))/\Below w.heap.size w w':=by
  have H:Aside (Parts w a k ps/\(JOIN ps).length<5000/\k<2 ^ 40/\(∀ p∈ps,p.a=none->p.c=0)/\o<256):=⟨hP,hlen,hkk,hnone,ho⟩
  clear hP hlen hkk hnone ho;go_enter Tryz.func46,Tryz.ntmps46;go_wp2_with fail
  go_loopg [5,13] k (fun r s5 s13 wx=>∃ i L:Nat,i+r=k/\s13=.int .i64 i/\s5=.int .i64 L/\w=wx/\Aside (L=(JOIN (ps.take i)).length+1))
  case atStart=>exact⟨0,1,by omega,rfl,rfl,rfl,rfl⟩
  case round=>
    obtain⟨i,L,hir,rfl,rfl,rfl,A⟩:=hrel;have hk:ps.length=k:=H.out.1.1;cases gk with
    | zero=>
      obtain rfl:i=k:=by omega
      rw[List.take_of_length_le (by omega)] at A;have hL:L<=1000000:=by have:=A.out;have:=H.out.2.1;omega
      have hmk:=G4 L hL;have hO:Aside ((w.alloc (.cells (BARR L fun _=>0) 5)).ownsRow w.heap.size 5 1 (.slice (some ⟨w.heap.size,0,none⟩) 0 L) 0 (za (INTS []))):=G5 w L hL
      have HM:Aside (Bytes ((w.alloc (.cells (BARR L fun _=>0) 5)).alloc (.cells #[.int .u8 (o:Int)] 5)) (some ⟨w.heap.size+1,0,none⟩) 1 [(o:Int)]):=by
        have h:=Zo (w.alloc (.cells (BARR L fun _=>0) 5)) 1 (fun _=>(o:Int)) [(o:Int)] rfl (fun i hi=>by obtain rfl:i=0:=(by omega);rfl) (fun x hx=>by simp at hx;have:=H.out.2.2.2.2;omega);have e:(w.alloc (.cells (BARR L fun _=>0) 5)).heap.size=w.heap.size+1:=by simp
        rw[e] at h;exact h
      have HB:Aside (Below w.heap.size w ((w.alloc (.cells (BARR L fun _=>0) 5)).alloc (.cells #[.int .u8 (o:Int)] 5))):=((Below.refl _ _).alloc (Nat.le_refl _) _).alloc (by simp) _;clear hL hk hir;go_wp2_with (at_builtin;refine zM _ rfl (.tmp 23) (.tmp 25) rfl w.heap.size (.slice (some ⟨w.heap.size,0,none⟩) 0 L) 0 (INTS []) rfl (hO.out.alloc _) (w.heap.size+1) 0 1 1 [(o:Int)] rfl HM.out (by decide) (by decide) (by simp;omega) ?_;intro g8 cap8 w8 hown8 hgrow8 hg8)
      have S:Aside (w8.ownsRow w.heap.size 5 1 (.slice (some ⟨g8,0,none⟩) (0+1) cap8) (0+1) (za (INTS (o :: JOIN (ps.take 0))))/\Below w.heap.size w w8):=⟨hown8,HB.out.grown hgrow8 (by simp;omega) (fun k e=>by simp[Value.ownBlock] at e;omega)⟩
      clear hown8 hgrow8 hg8 HB HM hO hmk A;go_loopg [8,29] i (fun r s8 s29 wx=>∃ (j N:Nat) (a8:Option Addr) (c8:Nat),j+r=i/\s29=.int .i64 j/\s8=.slice a8 N c8/\Aside (N=(JOIN (ps.take j)).length+1/\wx.ownsRow w.heap.size 5 1 (.slice a8 N c8) N (za (INTS (o :: JOIN (ps.take j))))/\Below w.heap.size w wx))
      case atStart=>exact⟨0,0+1,_,_,by omega,rfl,rfl,rfl,S.out.1,S.out.2⟩
      case round=>
        obtain⟨j,N,a8,c8,hjr,rfl,rfl,A⟩:=hrel;have hk:ps.length=i:=H.out.1.1;cases gk with
        | zero=>
          obtain rfl:j=i:=by omega
          rw[List.take_of_length_le (by omega)] at A;clear hk;go_wp2;go_ret;obtain⟨e1,e2,e3⟩:=A.out;subst e1;exact⟨a8,c8,rfl,e2,e3⟩
        | succ r=>
          obtain⟨pb,po,p,rfl,hpb,hpi,hc,ht,htk,hpm⟩:=H.out.1.at (i:=j) (by omega)
          have hlt:(j:Int)<(i:Int):=by omega
          have hl1:=jU ps (j+1);rw[htk,xw,List.length_append,ht.1] at hl1;have hcr:=(A.out.2.2.cell (p:=⟨pb,po+j,none⟩) (by exact hpb)).trans hc;have S2:Aside (N+p.n=(JOIN (ps.take (j+1))).length+1/\j+(r+1)=i/\N+p.n<=140737488355328/\Bytes wr p.a p.n (INTS p.l)/\(p.a=none->p.c=0)/\INTS (o :: JOIN (ps.take j)) ++ INTS p.l=INTS (o :: JOIN (ps.take (j+1)))):=⟨by rw[htk,xw,List.length_append,ht.1];have:=A.out.1;omega,hjr,by have:=A.out.1;have:=H.out.2.1;omega,(ht.below A.out.2.2).bytes,H.out.2.2.2.1 p hpm,by rw[htk,xw,<-JD];rfl⟩
          clear hl1 htk ht hpi hk hc hpm hjr;go_wp2_with (at_builtin;refine jF _ rfl (.tmp 33) (.tmp 34) rfl w.heap.size (.slice a8 N c8) N (INTS (o :: JOIN (ps.take j))) rfl A.out.2.1 p.a p.n p.c (INTS p.l) rfl S2.out.2.2.2.1 S2.out.2.2.2.2.1 (N+p.n) (INTS (o :: JOIN (ps.take (j+1)))) rfl S2.out.2.2.2.2.2 S2.out.2.2.1 A.out.2.2.size ?_;intro a9 c9 w9 hown9 hgrow9)
          go_roundg r
          case measure=>omega
          case rel=>
            refine⟨j+1,N+p.n,a9,c9,by have:=S2.out.2.1;omega,?_,rfl,S2.out.1,hown9,A.out.2.2.grown hgrow9 A.out.2.2.size (fun k e=>(A.out.2.1.lt k e).1)⟩;have h1:=H.out.2.2.1;have h2:wrap64 ((j:Int)+1)=((j+1:Nat):Int):=by unfold wrap64;omega
            rw[h2]
    | succ r=>
      obtain⟨pb,po,p,rfl,hpb,hpi,hc,ht,htk,hpm⟩:=H.out.1.at (i:=i) (by omega)
      have hlt:(i:Int)<(k:Int):=by omega
      have hl1:=jU ps (i+1);rw[htk,xw,List.length_append,ht.1] at hl1;have hw1:IntKind.i64.wrap ((L:Int)+(p.n:Int))=((L+p.n:Nat):Int):=by rw[IntKind.wrap_i64];have:=A.out;have:=H.out.2.1;omega
      have S:Aside (L+p.n=(JOIN (ps.take (i+1))).length+1/\i+(r+1)=k):=⟨by rw[htk,xw,List.length_append,ht.1];have:=A.out;omega,hir⟩
      clear hl1 htk ht hpi hk;go_wp2;go_roundg r
      case measure=>omega
      case rel=>
        refine⟨i+1,L+p.n,by omega,?_,?_,rfl,S.out.1⟩
        · have h1:=H.out.2.2.1
          have h2:wrap64 ((i:Int)+1)=((i+1:Nat):Int):=by unfold wrap64;omega
          rw[h2]
        · go_num
theorem zq{w:World}{base base':Nat}{t:TypeId}{s:Nat}{v:Value}{n:Nat}{xs:List Value}(h:w.ownsRow base t s v n xs)(hb:base'<=base):w.ownsRow base' t s v n xs:=
 ⟨h.1,h.2.imp id fun⟨g,c,cur,a,b,r⟩=>⟨g,c,cur,a,Nat.le_trans hb b,r⟩⟩
theorem qr(b:Nat)(w:World):(Instr.sliceAt 23 (.pointer (some ⟨b,0,none⟩)) none none none).run Tryz.prog w=.ok (.slice (some ⟨b,0,none⟩) 32 32) w:=by
 have hn:Tryz.prog.arrayLen 23=32:=by kernel_rfl
 rw[run_sliceAt_array_all w 23 ⟨b,0,none⟩ (by kernel_rfl),hn];have he:Tryz.prog.elem 23=5:=by kernel_rfl
 obtain⟨i8,hi,h8⟩:=Option.map_eq_some_iff.1 zU;simp only[Prod.mk.injEq] at h8;rw[he];simp[sizeOf,typeInfo,hi,h8.2.1,slicedAt,Addr.add]
theorem Has.text{w:World}{g:Nat}{f:Nat->Nat}{t:TypeId}(h:Has w g (UARR .u8 32 f) t)(hf:∀ i,f i<256):Text w (some ⟨g,0,none⟩) 32 ((List.range 32).map f):=
 ⟨by simp,fun _=>⟨g,0,rfl,h.lt,fun i hi=>by rw[Nat.zero_add,h.cell,zt _ _ _ _ hi,List.getD_eq_getElem?_getD,List.getElem?_map,List.getElem?_range hi];rfl⟩,fun x hx=>by obtain⟨i,_,rfl⟩:=List.mem_map.1 hx;exact hf i⟩
theorem vK{w:World}{l r:Nat->Nat}{g h:Nat}{t u:TypeId}(hl:∀ i,l i<256)(hr:∀ i,r i<256)(h1:Has w g (UARR .u8 32 l) t)(h2:Has w h (UARR .u8 32 r) u):Parts (w.alloc (.cells #[.slice (some ⟨g,0,none⟩) 32 32,.slice (some ⟨h,0,none⟩) 32 32] 27)) (some ⟨w.heap.size,0,none⟩) 2 [⟨some ⟨g,0,none⟩,32,32,(List.range 32).map l⟩,⟨some ⟨h,0,none⟩,32,32,(List.range 32).map r⟩]:=
 ⟨rfl,fun _=>⟨w.heap.size,0,rfl,by simp,fun i p hp=>by
  have hi:i<2:=(List.getElem?_eq_some_iff.1 hp).1;rw[World.cell?_alloc_at _ _ _ _ rfl];have h2:i=0\/i=1:=by omega
  rcases h2 with rfl | rfl <;> (simp at hp;subst hp;rfl)⟩,fun p hp=>by
  simp only[List.mem_cons,List.not_mem_nil,or_false] at hp;rcases hp with rfl | rfl
  ·exact⟨(h1.alloc _).text hl,Nat.le_refl _,fun x e=>by simp only[Option.some.injEq] at e;rw[<-e];exact(h1.alloc _).lt⟩
  ·exact⟨(h2.alloc _).text hr,Nat.le_refl _,fun x e=>by simp only[Option.some.injEq] at e;rw[<-e];exact(h2.alloc _).lt⟩⟩
theorem ZC(l r:Nat->Nat)(g h:Nat):JOIN [⟨some ⟨g,0,none⟩,32,32,(List.range 32).map l⟩,⟨some ⟨h,0,none⟩,32,32,(List.range 32).map r⟩]=(List.range 32).map l ++ (List.range 32).map r:=by simp[JOIN]
theorem JF(l r:Nat->Nat)(hl:∀ i,l i<256)(hr:∀ i,r i<256)(w:World):Calls Tryz.prog 24 #[.agg (UARR .u8 32 l),.agg (UARR .u8 32 r)] w fun e w'=>
  ∃ a' c',e=.returned (.slice a' 65 c')/\w'.ownsRow w.heap.size 5 1 (.slice a' 65 c') 65 (za (INTS (1 :: ((List.range 32).map l ++ (List.range 32).map r))))/\Below w.heap.size w w':=by
 have hs32:=qr;have H:Aside ((∀ i,l i<256)/\(∀ i,r i<256)):=⟨hl,hr⟩
 clear hl hr;go_enter Tryz.func24,Tryz.ntmps24;go_wp2_with fail
 have U:Aside (Below w.heap.size w ((w.alloc (.cells (UARR .u8 32 l) 23)).alloc (.cells (UARR .u8 32 r) 23))/\Has ((w.alloc (.cells (UARR .u8 32 l) 23)).alloc (.cells (UARR .u8 32 r) 23)) w.heap.size (UARR .u8 32 l) 23/\Has ((w.alloc (.cells (UARR .u8 32 l) 23)).alloc (.cells (UARR .u8 32 r) 23)) (w.heap.size+1) (UARR .u8 32 r) 23):=⟨((Below.refl _ _).alloc (Nat.le_refl _) _).alloc (by simp) _,(Has.new w _ _).alloc _,Has.at _ _ _ (by simp)⟩
 generalize (w.alloc (.cells (UARR .u8 32 l) 23)).alloc (.cells (UARR .u8 32 r) 23)=w1 at *
 generalize hh:w.heap.size+1=h at *
 obtain⟨X,hX⟩:∃ X,X=(w1.alloc (.cells #[.slice (some ⟨w.heap.size,0,none⟩) 32 32,.slice (some ⟨h,0,none⟩) 32 32] 27)).drew:=⟨_,rfl⟩
 have hXs:X.heap.size=w1.heap.size+1:=by rw[hX];simp[World.drew]
 have ct:Calls Tryz.prog 46 #[.int .u8 1,.slice (some ⟨w1.heap.size,0,none⟩) 2 2] X fun e w'=>∃ a' c',e=.returned (.slice a' 65 c')/\w'.ownsRow X.heap.size 5 1 (.slice a' 65 c') 65 (za (INTS (1 :: ((List.range 32).map l ++ (List.range 32).map r))))/\Below X.heap.size X w':=by
  have hh1:Has w1.drew w.heap.size (UARR .u8 32 l) 23:=U.out.2.1;have hh2:Has w1.drew h (UARR .u8 32 r) 23:=U.out.2.2;have k:=XE 1 (by decide) _ 2 2 _ _ (vK H.out.1 H.out.2 hh1 hh2) (fun p hp=>by simp only[List.mem_cons,List.not_mem_nil,or_false] at hp;rcases hp with rfl | rfl <;> (intro e;cases e)) (by rw[ZC];simp) (by decide);have e65:((List.range 32).map l ++ (List.range 32).map r).length+1=65:=by simp
  rw[ZC,e65] at k;rw[hX];exact k
 have HX:Aside (Below w.heap.size w X/\w.heap.size<=X.heap.size):=⟨by rw[hX];exact(U.out.1.alloc U.out.1.size _).drew,by rw[hXs];have:=U.out.1.size;omega⟩
 rw[hX] at ct;go_region_held3 (fun _=>True) (trivial) (first | (go_at_call 46;refine ct.mono ?_;rintro e w5 ⟨a5,c5,rfl,hown5,hb5⟩))
 rw[<-hX] at hown5 hb5;have S:Aside (w5.ownsRow w.heap.size 5 1 (.slice a5 65 c5) 65 (za (INTS (1 :: ((List.range 32).map l ++ (List.range 32).map r))))/\Below w.heap.size w w5):=⟨zq hown5 HX.out.2,HX.out.1.trans (hb5.mono HX.out.2)⟩
 clear hown5 hb5 ct;go_wp2;go_ret;exact⟨a5,c5,rfl,S.out.1,S.out.2⟩
theorem JG(l r:Nat->Nat)(hl:∀ i,l i<256)(hr:∀ i,r i<256)(w:World):Calls Tryz.prog 83 #[.agg (UARR .u8 32 l),.agg (UARR .u8 32 r)] w fun e w'=>
  ∃ a' c',e=.returned (.slice a' 65 c')/\w'.ownsRow w.heap.size 5 1 (.slice a' 65 c') 65 (za (INTS (2 :: ((List.range 32).map l ++ (List.range 32).map r))))/\Below w.heap.size w w':=by
 have hs32:=qr;have H:Aside ((∀ i,l i<256)/\(∀ i,r i<256)):=⟨hl,hr⟩
 clear hl hr;go_enter Tryz.func83,Tryz.ntmps83;go_wp2_with fail
 have U:Aside (Below w.heap.size w ((w.alloc (.cells (UARR .u8 32 l) 23)).alloc (.cells (UARR .u8 32 r) 23))/\Has ((w.alloc (.cells (UARR .u8 32 l) 23)).alloc (.cells (UARR .u8 32 r) 23)) w.heap.size (UARR .u8 32 l) 23/\Has ((w.alloc (.cells (UARR .u8 32 l) 23)).alloc (.cells (UARR .u8 32 r) 23)) (w.heap.size+1) (UARR .u8 32 r) 23):=⟨((Below.refl _ _).alloc (Nat.le_refl _) _).alloc (by simp) _,(Has.new w _ _).alloc _,Has.at _ _ _ (by simp)⟩
 generalize (w.alloc (.cells (UARR .u8 32 l) 23)).alloc (.cells (UARR .u8 32 r) 23)=w1 at *
 generalize hh:w.heap.size+1=h at *
 obtain⟨X,hX⟩:∃ X,X=(w1.alloc (.cells #[.slice (some ⟨w.heap.size,0,none⟩) 32 32,.slice (some ⟨h,0,none⟩) 32 32] 27)).drew:=⟨_,rfl⟩
 have hXs:X.heap.size=w1.heap.size+1:=by rw[hX];simp[World.drew]
 have ct:Calls Tryz.prog 46 #[.int .u8 2,.slice (some ⟨w1.heap.size,0,none⟩) 2 2] X fun e w'=>∃ a' c',e=.returned (.slice a' 65 c')/\w'.ownsRow X.heap.size 5 1 (.slice a' 65 c') 65 (za (INTS (2 :: ((List.range 32).map l ++ (List.range 32).map r))))/\Below X.heap.size X w':=by
  have hh1:Has w1.drew w.heap.size (UARR .u8 32 l) 23:=U.out.2.1;have hh2:Has w1.drew h (UARR .u8 32 r) 23:=U.out.2.2;have k:=XE 2 (by decide) _ 2 2 _ _ (vK H.out.1 H.out.2 hh1 hh2) (fun p hp=>by simp only[List.mem_cons,List.not_mem_nil,or_false] at hp;rcases hp with rfl | rfl <;> (intro e;cases e)) (by rw[ZC];simp) (by decide);have e65:((List.range 32).map l ++ (List.range 32).map r).length+1=65:=by simp
  rw[ZC,e65] at k;rw[hX];exact k
 have HX:Aside (Below w.heap.size w X/\w.heap.size<=X.heap.size):=⟨by rw[hX];exact(U.out.1.alloc U.out.1.size _).drew,by rw[hXs];have:=U.out.1.size;omega⟩
 rw[hX] at ct;go_region_held3 (fun _=>True) (trivial) (first | (go_at_call 46;refine ct.mono ?_;rintro e w5 ⟨a5,c5,rfl,hown5,hb5⟩))
 rw[<-hX] at hown5 hb5;have S:Aside (w5.ownsRow w.heap.size 5 1 (.slice a5 65 c5) 65 (za (INTS (2 :: ((List.range 32).map l ++ (List.range 32).map r))))/\Below w.heap.size w w5):=⟨zq hown5 HX.out.2,HX.out.1.trans (hb5.mono HX.out.2)⟩
 clear hown5 hb5 ct;go_wp2;go_ret;exact⟨a5,c5,rfl,S.out.1,S.out.2⟩
theorem gu(w:World)(n:Nat):Text (w.alloc (.cells (BARR 8 (BYTE n 8)) 5)) (some ⟨w.heap.size,0,none⟩) 8 (BE8 n):=
 Text.of_bytes (Zo w 8 (BYTE n 8) (INTS (BE8 n)) (by rw[INTS,List.length_map,YF]) (fun i hi=>by
  rw[jy];unfold BYTE BE8;rw[List.getD_eq_getElem?_getD,List.getElem?_map,List.getElem?_range hi];rfl) (qo (YS n)))
theorem gw{w:World}{n:Nat}{r:Nat->Nat}{g h:Nat}{t:TypeId}(hr:∀ i,r i<256)(hg:g<w.heap.size)(h1:Text w (some ⟨g,0,none⟩) 8 (BE8 n))(h2:Has w h (UARR .u8 32 r) t):Parts (w.alloc (.cells #[.slice (some ⟨g,0,none⟩) 8 8,.slice (some ⟨h,0,none⟩) 32 32] 27)) (some ⟨w.heap.size,0,none⟩) 2 [⟨some ⟨g,0,none⟩,8,8,BE8 n⟩,⟨some ⟨h,0,none⟩,32,32,(List.range 32).map r⟩]:=
 ⟨rfl,fun _=>⟨w.heap.size,0,rfl,by simp,fun i p hp=>by
  have hi:i<2:=(List.getElem?_eq_some_iff.1 hp).1;rw[World.cell?_alloc_at _ _ _ _ rfl];have h2:i=0\/i=1:=by omega
  rcases h2 with rfl | rfl <;> (simp at hp;subst hp;rfl)⟩,fun p hp=>by
  simp only[List.mem_cons,List.not_mem_nil,or_false] at hp;rcases hp with rfl | rfl
  ·exact⟨h1.below ((Below.refl _ _).alloc (Nat.le_refl _) _),Nat.le_refl _,fun x e=>by simp only[Option.some.injEq] at e;rw[<-e];simp;omega⟩
  ·exact⟨(h2.alloc _).text hr,Nat.le_refl _,fun x e=>by simp only[Option.some.injEq] at e;rw[<-e];exact(h2.alloc _).lt⟩⟩
theorem vL(n:Nat)(r:Nat->Nat)(g h:Nat):JOIN [⟨some ⟨g,0,none⟩,8,8,BE8 n⟩,⟨some ⟨h,0,none⟩,32,32,(List.range 32).map r⟩]=BE8 n ++ (List.range 32).map r:=by simp[JOIN]
theorem JH(n:Nat)(hn:n<2 ^ 64)(r:Nat->Nat)(hr:∀ i,r i<256)(w:World):Calls Tryz.prog 84 #[.int .u64 (n:Int),.agg (UARR .u8 32 r)] w fun e w'=>
  ∃ a' c',e=.returned (.slice a' 41 c')/\w'.ownsRow w.heap.size 5 1 (.slice a' 41 c') 41 (za (INTS (3 :: (BE8 n ++ (List.range 32).map r))))/\Below w.heap.size w w':=by
 have hs32:=qr;have ci:=ve n hn;have H:Aside (∀ i,r i<256):=hr;clear hr hn;go_enter Tryz.func84,Tryz.ntmps84;go_wp2_with fail
 have U:Aside (Below w.heap.size w (w.alloc (.cells (UARR .u8 32 r) 23))/\Has (w.alloc (.cells (UARR .u8 32 r) 23)) w.heap.size (UARR .u8 32 r) 23):=⟨(Below.refl _ _).alloc (Nat.le_refl _) _,Has.new w _ _⟩
 generalize w.alloc (.cells (UARR .u8 32 r) 23)=w1 at *
 obtain⟨X,hX⟩:∃ X,X=((w1.drew.alloc (.cells (BARR 8 (BYTE n 8)) 5)).alloc (.cells #[.slice (some ⟨w1.heap.size,0,none⟩) 8 8,.slice (some ⟨w.heap.size,0,none⟩) 32 32] 27)):=⟨_,rfl⟩
 have hXs:X.heap.size=w1.heap.size+1+1:=by rw[hX];simp
 have ct:Calls Tryz.prog 46 #[.int .u8 3,.slice (some ⟨w1.heap.size+1,0,none⟩) 2 2] X fun e w'=>∃ a' c',e=.returned (.slice a' 41 c')/\w'.ownsRow X.heap.size 5 1 (.slice a' 41 c') 41 (za (INTS (3 :: (BE8 n ++ (List.range 32).map r))))/\Below X.heap.size X w':=by
  have hh1:=gu w1.drew n;have hh2:Has (w1.drew.alloc (.cells (BARR 8 (BYTE n 8)) 5)) w.heap.size (UARR .u8 32 r) 23:=(show Has w1.drew w.heap.size (UARR .u8 32 r) 23 from U.out.2).alloc _;have k:=XE 3 (by decide) _ 2 2 _ _ (gw H.out (by simp) hh1 hh2) (fun p hp=>by simp only[List.mem_cons,List.not_mem_nil,or_false] at hp;rcases hp with rfl | rfl <;> (intro e;cases e)) (by rw[vL];simp[BE8]) (by decide);have e41:(BE8 n ++ (List.range 32).map r).length+1=41:=by simp[BE8]
  rw[vL,e41] at k;have es:(w1.drew.alloc (.cells (BARR 8 (BYTE n 8)) 5)).heap.size=w1.heap.size+1:=by simp
  rw[hX];rw[es] at k;exact k
 have HX:Aside (Below w.heap.size w X/\w.heap.size<=X.heap.size):=⟨by rw[hX];exact(U.out.1.drew.alloc U.out.1.size _).alloc (by have:=U.out.1.size;simp;omega) _,by rw[hXs];have:=U.out.1.size;omega⟩
 rw[hX] at ct;go_region_held3 (fun _=>True) (trivial) (first | (go_at_call 118;refine(ci _).mono ?_;rintro e w4 ⟨rfl,rfl⟩) | (go_at_call 46;refine ct.mono ?_;rintro e w5 ⟨a5,c5,rfl,hown5,hb5⟩))
 rw[<-hX] at hown5 hb5;have S:Aside (w5.ownsRow w.heap.size 5 1 (.slice a5 41 c5) 41 (za (INTS (3 :: (BE8 n ++ (List.range 32).map r))))/\Below w.heap.size w w5):=⟨zq hown5 HX.out.2,HX.out.1.trans (hb5.mono HX.out.2)⟩
 clear hown5 hb5 ct;go_wp2;go_ret;exact⟨a5,c5,rfl,S.out.1,S.out.2⟩
theorem Has.whole{w:World}{g:Nat}{F:Nat->Nat}{k:IntKind}{n:Nat}{t:TypeId}(h:Has w g (UARR k n F) t):w.rangeAt g 0 (zi k n F):=fun j v hv=>by
 have hj:j<n:=by have:=(List.getElem?_eq_some_iff.1 hv).1;rw[zD] at this;exact this
 rw[xu _ _ _ _ hj] at hv;rw[Nat.zero_add,h.cell,zt _ _ _ _ hj,hv]
theorem Xb(d n:Nat)(F G:Nat->Nat)(w:World):∀ is:List Nat,(∀ i∈is,i<n)->(Op.eqItems (d+1) 5 1 (UARR .u8 n F) (UARR .u8 n G) is).run Tryz.prog w=.ok (is.all fun i=>F i == G i) w
 | [],_=>by simp[Op.eqItems]
 | i :: is,h=>by
   have hp:Tryz.prog.plainKey 5=true:=by kernel_rfl
   have hi:i<n:=h i (by simp);have h1:=run_part_plain (P:=Tryz.prog) w hp (zt .u8 n F i hi);have h2:=run_part_plain (P:=Tryz.prog) w hp (zt .u8 n G i hi);have h3:=run_equalIn_int (P:=Tryz.prog) w d 5 .u8 .u8 (F i:Nat) (G i:Nat) Tryz.underlying5;have ih:=Xb d n F G w is (fun j hj=>h j (by simp[hj]));rw[Op.eqItems,Nat.mul_one];simp only[Sem.run_bind,h1,h2,h3,Result.andThen_ok];by_cases e:F i=G i
   ·simp[e,ih]
   ·have e2:((F i:Int) == (G i:Int))=false:=by simp;omega
    simp[e2,e]
theorem YG(F G:Nat->Nat)(w:World):(Op.equalIn 10000 23 (.agg (UARR .u8 32 F)) (.agg (UARR .u8 32 G))).run Tryz.prog w=.ok ((List.range 32).all fun i=>F i == G i) w:=by
 obtain⟨i8,hi,_⟩:=Option.map_eq_some_iff.1 zU;rw[run_equalIn_array (P:=Tryz.prog) w 9999 (UARR .u8 32 F) (UARR .u8 32 G) Tryz.underlying23 hi];have hc:Tryz.prog.cellsOf 5=1:=by kernel_rfl
 rw[hc];exact Xb 9998 32 F G w _ (fun i hi=>by simpa using hi)
end HX
end Go.Proofs.YtobaogpomcocpaaGreatDoor
