/- ClashTrees: part 32. -/
import Derived.Test.YtnimaaflmdoaaaaGreatDoorClashTreesP31
set_option maxHeartbeats 2000000
namespace Go.Proofs.YtnimaaflmdoaaaaGreatDoor.HX
open Go.RowKit
set_option maxRecDepth 100000
def PKV (d:Int) (f:Nat->Nat->Nat) (m:Nat):List (Nat->Nat):=(HS 0 m).map fun h=>VAL d f h (2*(m / 2 ^ (h+1)))
theorem z4A (d:Int) (f:Nat->Nat->Nat) {m:Nat} (hm:m<2 ^ 64):(PKV d f m).length=PC m:=by
 rw [PKV,List.length_map,z2U hm 0 (by decide),Nat.pow_zero,Nat.div_one]
theorem z51 {m h:Nat} (hb:m / 2 ^ h % 2=1):(2*(m / 2 ^ (h+1))+1)*2 ^ h<=m:=by
 have e:m / 2 ^ h=2*(m / 2 ^ (h+1))+1:=by rw [z0B];omega
 rw [<-e];exact Nat.div_mul_le_self m (2 ^ h)
theorem FOREST.peak {w:World} {B g:Nat} {d:Int} {log n:Nat} {C:z04} {f:Nat->Nat->Nat} (hF:FOREST w B g d log n C f) {m i h:Nat} (hm:m<=n) (hi:(HS 0 m)[i]?=some h):
  PKP m h<2 ^ 40/\GOTH C log (z05 n) (PKP m h)=VAL d f h (2*(m / 2 ^ (h+1)))/\GOT C log (z05 n) (PKP m h)=0/\(z1G m)[i]?=some (PKP m h)/\(PKV d f m)[i]?=some (VAL d f h (2*(m / 2 ^ (h+1)))):=by
 have hb:=(z4H 0 h (by decide) (List.mem_of_getElem? hi)).2.2;have hs:=Nat.le_trans (z51 hb) hm;have hlt:PKP m h<z05 n:=z3C hs;have hat:AT C log (PKP m h)=some (VAL d f h (2*(m / 2 ^ (h+1)))):=hF.node h _ hs;have:=hF.store.short;refine ⟨by omega,?_,?_,?_,?_⟩
 ·unfold GOTH
  rw [if_pos hlt,hat];rfl
 ·unfold GOT
  rw [if_pos hlt,hat];rfl
 ·rw [z1G,List.getElem?_map,hi]
  rfl
 ·rw [PKV,List.getElem?_map,hi]
  rfl
theorem z9b {w:World} {B g:Nat} {d:Int} {log n:Nat} {C:z04} {f:Nat->Nat->Nat} (hF:FOREST w B g d log n C f) (m:Nat) (hm:m<=n) (hT:Go.Proofs.YtnimaaflmdoaaaaGreatDoor.Tabled w):
  Calls Tryz.prog 79 #[.pointer (some ⟨g,0,none⟩),.int .u64 (m:Int)] w fun e w'=>∃ v,e=.returned (.tuple #[v,.int .i64 0])/\w'.ownsRow w.heap.size 23 32 v (PC m) (HL (PKV d f m))/\Below w.heap.size w w':=by
 have hn20:=hF.few;have cp:=z5A m (by omega) w hT (by have:=hF.store.lt;omega);have hz:=z0X;have A:Aside (FOREST w B g d log n C f/\m<=n/\m<=2 ^ 20):=⟨hF,hm,by omega⟩
 clear hF hm hT hn20;go_enter Tryz.func79,Tryz.ntmps79;go_wp2_with fail
 refine cp.mono ?_;rintro e w1 ⟨gp,cap,rfl,hrow,hb1⟩;clear cp;have hlen:=z4A d f (m:=m) (by have:=A.out.2.2;omega);have hpc:PC m<=64:=z1E 64 m (by have:=A.out.2.2;omega);have hgp:=(hrow.lt gp rfl)
 have A2:Aside (w1.ownsRow w.heap.size 24 1 (.slice (some ⟨gp,0,none⟩) (PC m) cap) (PC m) (Go.Proofs.YtnimaaflmdoaaaaGreatDoor.UCELLS (z1G m))/\Below w.heap.size w w1/\(PKV d f m).length=PC m/\PC m<=64/\w.heap.size<=gp/\gp<w1.heap.size):=⟨hrow,hb1,hlen,hpc,hgp.1,hgp.2⟩
 clear hrow hb1 hlen hpc hgp;obtain ⟨M,hM⟩:∃ M,PC m=M:=⟨_,rfl⟩
 rw [hM] at A2 ⊢;go_wp2_with fail
 go_loopg [6,14] M (fun r s6 s14 wx=>∃ i:Nat,s14=.int .i64 (i:Int)/\Aside (i+r=M/\wx.ownsRow w1.heap.size 23 32 s6 i (HL ((PKV d f m).take i))/\Below w1.heap.size w1 wx))
 case atStart=>exact ⟨0,rfl,by omega,⟨rfl,.inl ⟨rfl,rfl⟩⟩,Below.refl _ _⟩
 case round=>
  obtain ⟨i,rfl,R⟩:=hrel;cases gk with
  | zero=>
    obtain rfl:i=M:=by have:=R.out.1;omega
    have hlt:¬ (i:Int)<(i:Int):=by omega
    have F:Aside (wr.ownsRow w.heap.size 23 32 u6 i (HL (PKV d f m))/\Below w.heap.size w wr):=by
     obtain ⟨-,h1,h2⟩:=R.out;rw [List.take_of_length_le (by rw [A2.out.2.2.1];omega)] at h1;exact ⟨z0W h1 A2.out.2.1.size,A2.out.2.1.trans (h2.mono A2.out.2.1.size)⟩
    clear R A A2 hz;go_wp2_with fail
    go_ret2;exact ⟨_,rfl,F.out⟩
  | succ r=>
    have hiM:i<M:=by have:=R.out.1;omega
    have hlt:(i:Int)<(M:Int):=by omega
    have hi0:¬ (i:Int)<0:=by omega
    obtain ⟨hh,hhe⟩:∃ hh,(HS 0 m)[i]?=some hh:=⟨_,List.getElem?_eq_getElem (by have h1:=A2.out.2.2.1;rw [PKV,List.length_map] at h1;omega)⟩
    have hbw:Below w.heap.size w wr:=A2.out.2.1.trans (R.out.2.2.mono A2.out.2.1.size);obtain ⟨p1,p2,p3,p4,p5⟩:=A.out.1.peak A.out.2.1 hhe;have hc:wr.cell? ⟨gp,i,none⟩=some (.int .u64 ((PKP m hh:Nat):Int)):=(R.out.2.2.cell (p:=⟨gp,i,none⟩) A2.out.2.2.2.2.2).trans (by rw [A2.out.1.cellAt i (by omega),Go.Proofs.YtnimaaflmdoaaaaGreatDoor.UCELLS,List.getElem?_map,p4];rfl);have cg:=z5u (A.out.1.below hbw).store (PKP m hh) (by omega);rw [p2,p3] at cg;have ht:(PKV d f m).take (i+1)=(PKV d f m).take i ++ [VAL d f hh (2*(m / 2 ^ (hh+1)))]:=by rw [List.take_add_one,p5];rfl
    generalize VAL d f hh (2*(m / 2 ^ (hh+1)))=V at *
    generalize PKP m hh=pp at *
    have ei:wrap64 ((i:Int)+1)=((i+1:Nat):Int):=by have:=A2.out.2.2.2.1;unfold wrap64;omega
    have R2:Aside (i+1+r=M/\wr.ownsRow w1.heap.size 23 32 u6 i (HL ((PKV d f m).take i))/\Below w1.heap.size w1 wr/\(PKV d f m).take (i+1)=(PKV d f m).take i ++ [V]/\i<=64):=⟨by have:=R.out.1;clear ei;omega,R.out.2.1,R.out.2.2,ht,by have:=A2.out.2.2.2.1;clear ei;omega⟩
    clear R hhe p1 p2 p3 p4 p5 hbw ht hiM;go_wp2_with fail
    refine cg.mono ?_;rintro e w2 ⟨rfl,hb2⟩;clear cg;have hst:=run_storeCells_new (P:=Tryz.prog) w2 23 (UARR .u8 32 fun _=>0) (UARR .u8 32 V) (z03 _) (by rw [z02,z02]) (z0g _ _ _);have hsu:=z02 .u8 32 V;obtain ⟨w3,hw3⟩:∃ w3,w2.alloc (.cells (UARR .u8 32 V) 23)=w3:=⟨_,rfl⟩
    have hF3:Has w3 w2.heap.size (UARR .u8 32 V) 23:=by rw [<-hw3];exact Has.new w2 _ _
    have hb3:Below wr.heap.size wr w3:=by rw [<-hw3];exact hb2.alloc hb2.size _
    have R3:Aside ((w3.alloc (.cells (UARR .u8 32 V) 23)).ownsRow w1.heap.size 23 32 u6 i (HL ((PKV d f m).take i))/\Below w1.heap.size w1 (w3.alloc (.cells (UARR .u8 32 V) 23))/\w1.heap.size<=(w3.alloc (.cells (UARR .u8 32 V) 23)).heap.size/\Has (w3.alloc (.cells (UARR .u8 32 V) 23)) w3.heap.size (UARR .u8 32 V) 23):=by
     have h1:Below wr.heap.size wr (w3.alloc (.cells (UARR .u8 32 V) 23)):=hb3.alloc hb3.size _;exact ⟨z3q R2.out.2.1 h1,R2.out.2.2.1.trans (h1.mono R2.out.2.2.1.size),Nat.le_trans R2.out.2.2.1.size h1.size,Has.new _ _ _⟩
    clear hb2 hb3
    go_wp2_with (first
     | (refine wpList_load_row rfl 23 (.tmp 9) rfl w2.heap.size rfl 23 (UARR .u8 32 V) (0,0) _ hF3 Tryz.underlying23 rfl (z03 _) ?_)
     | (refine zcj w3 rfl (.tmp 28) rfl V rfl ?_)
     | (at_builtin;refine ze2 _ rfl (.tmp 27) (.tmp 29) rfl w1.heap.size u6 i (HL ((PKV d f m).take i)) rfl R3.out.1 w3.heap.size 1 V rfl R3.out.2.2.2 (by have:=R2.out.2.2.2.2;omega) R3.out.2.2.1 ?_;intro g6 c6 w6 hown6 hgrow6 hat6 hlt6))
    go_roundg r
    case measure=>exact Nat.lt_succ_self _
    case rel=>
     refine ⟨i+1,by first | rfl | (rw [ei]),R2.out.1,?_,R3.out.2.1.grown hgrow6 R3.out.2.2.1 (fun k e=>(R3.out.1.lt k e).1)⟩;rw [R2.out.2.2.2.1,zfA];exact hown6
end Go.Proofs.YtnimaaflmdoaaaaGreatDoor.HX
namespace Go.Proofs.YtnimaaflmdoaaaaGreatDoor
open Go.RowKit
set_option maxRecDepth 100000
def TVAL (d:Int) (f:Nat->Nat->Nat) (h k:Nat):List Int:=LST (HX.VAL d f h k)
theorem z2S (d:Int) (f:Nat->Nat->Nat) (h k:Nat):(TVAL d f h k).length=32:=z0m _
theorem zgF {d:Int} {f:Nat->Nat->Nat} {n h k:Nat} (hf:∀ k,k<n->∀ i,f k i<256) (hk:(k+1)*2 ^ h<=n):IsH (TVAL d f h k):=z25 fun i=>HX.z2z hf h k hk i
theorem z9c {w:World} {B g:Nat} {d:Int} {log n h k:Nat} {C:HX.z04} {f:Nat->Nat->Nat} (hF:HX.FOREST w B g d log n C f) (hs:(k+1)*2 ^ h<=n):HX.GOTH C log (z05 n) (PLC h k)=HX.VAL d f h k/\HX.GOT C log (z05 n) (PLC h k)=0:=by
 have h1:=z55 hs;unfold HX.GOTH HX.GOT;rw [if_pos h1,if_pos h1,hF.node h k hs];exact ⟨rfl,rfl⟩
def INN (ss:List (Nat × Nat)) (n:Nat):Prop:=∀ s∈ss,(s.2+1)*2 ^ s.1<=n
theorem z9d {ss:List (Nat × Nat)} {p:Nat} (h:p∈PLCS ss):∃ s∈ss,p=PLC s.1 s.2:=by
 unfold PLCS at h;obtain ⟨s,hs,e⟩:=List.mem_map.1 h;exact ⟨s,hs,e.symm⟩
theorem zhF {w:World} {B g:Nat} {d:Int} {log n:Nat} {C:HX.z04} {f:Nat->Nat->Nat} (hF:HX.FOREST w B g d log n C f) (ss:List (Nat × Nat)) (hs:INN ss n):z5a w g (fun p=>LST (HX.GOTH C log (z05 n) p)) (HX.GOT C log (z05 n)) (PLCS ss):=fun W hb p hp=>by
 obtain ⟨s,h1,rfl⟩:=z9d hp;have hl:=z55 (hs s h1);have hb2:z05 n<=2*n:=by unfold z05;omega
 have:=hF.few;have hc:=HX.z5u (hF.store.below hb) (PLC s.1 s.2) (by omega);rw [z0Z] at hc;exact hc
theorem z9e {w:World} {B g:Nat} {d:Int} {log n:Nat} {C:HX.z04} {f:Nat->Nat->Nat} (hF:HX.FOREST w B g d log n C f):∀ (ss:List (Nat × Nat)),INN ss n->∀ j,j<=ss.length->TFL (fun p=>LST (HX.GOTH C log (z05 n) p)) (PLCS ss) j=CAT (TVAL d f) (ss.take j)
 | ss,hs,0,_=>by simp [TFL,CAT]
 | ss,hs,j+1,hj=>by
   obtain ⟨s,e⟩:∃ s,ss[j]?=some s:=⟨_,List.getElem?_eq_getElem (by omega)⟩
   obtain ⟨h,k⟩:=s;rw [z92,z9e hF ss hs j (by omega),z8H e,zaq e,(z9c hF (hs _ (List.mem_of_getElem? e))).1];rfl
def ze3 (w:World) (d:Int) (f:Nat->Nat->Nat) (ss:List (Nat × Nat)) (X Y:Nat) (e:Ending) (w':World):Prop:=
 ∃ a c,e=.returned (.tuple #[.agg #[.int .u64 (X:Int),.int .u64 (Y:Int),.slice a ss.length c],.int .i64 0])/\w'.ownsRow w.heap.size 23 32 (.slice a ss.length c) ss.length (z00 (CAT (TVAL d f) ss))/\Below w.heap.size w w'
theorem TMADE.tree {w0 w w':World} {B g:Nat} {d:Int} {log n:Nat} {C:HX.z04} {f:Nat->Nat->Nat} (hF:HX.FOREST w0 B g d log n C f) {ss:List (Nat × Nat)} (hs:INN ss n) {X Y:Nat} {e:Ending} (h:TMADE w (fun p=>LST (HX.GOTH C log (z05 n) p)) (HX.GOT C log (z05 n)) (0,PLCS ss) X Y e w'):ze3 w d f ss X Y e w':=by
 obtain ⟨hb,h⟩:=h
 have hz:∀ p∈PLCS ss,HX.GOT C log (z05 n) p=0:=fun p hp=>by
  obtain ⟨s,h1,rfl⟩:=z9d hp;exact (z9c hF (hs s h1)).2
 rcases h with ⟨h1,_⟩ | ⟨_,_,u,rfl,hu⟩ | ⟨_,j,hj,_,h1,_⟩
 ·exact absurd rfl h1
 ·dsimp only at hu
  rw [z0P,z9e hF ss hs _ (Nat.le_refl _),List.take_length] at hu;rcases hu.2 with ⟨e,h0⟩ | ⟨g,cap,cur,e,_⟩
  ·subst e
   refine ⟨none,0,by rw [h0],?_,hb⟩;rw [h0] at hu ⊢;exact hu
  ·subst e
   exact ⟨_,cap,rfl,hu,hb⟩
 ·refine absurd (hz _ ?_) h1
  dsimp only at hj ⊢;rw [List.getD_eq_getElem?_getD,List.getElem?_eq_getElem hj];exact List.getElem_mem _
theorem z75 {i m n:Nat} (hi:i<m) (hm:m<=n) (hn:n<=1000000):INN (PSP i m) n:=fun s hs=>by
 have h62:=(z0U hi (by omega)).2.1;have hT:=z4M (a:=0) (b:=m) (by omega) (Nat.zero_le m);have hK:=(z3e hi (by omega)).1;have hin:=(hT.within _ (List.mem_of_getElem? hK)).2.1;dsimp only at hin;unfold PSP at hs;rcases List.mem_append.1 hs with h | h
 ·have:=(z2M i _ s h).2
  omega
 ·obtain ⟨j,_,hj⟩:=z7h h
  have:=(hT.within _ (List.mem_of_getElem? hj)).2.1;omega
theorem z9f {w:World} {B g:Nat} {d:Int} {log n:Nat} {C:HX.z04} {f:Nat->Nat->Nat} (hF:HX.FOREST w B g d log n C f) (i m:Nat) (hi:i<m) (hm:m<=n) (hn:n<=1000000) (hT:Tabled w) (h0:0<w.heap.size):
  Calls Tryz.prog 19 #[.iface 43 (.pointer (some ⟨g,0,none⟩)),.int .u64 (i:Int),.int .u64 (m:Int)] w (ze3 w d f (PSP i m) m i):=by
 have e:PLA i m=(0,PLCS (PSP i m)):=by unfold PLA;rw [if_neg (by omega),if_neg (by omega)]
 have hs:=z75 hi hm hn;have:=zfr m i g _ _ (fun p=>z0m (HX.GOTH C log (z05 n) p)) w (by rw [e];exact zhF hF _ hs) hT h0;rw [e] at this;exact this.mono fun _ _ h=>TMADE.tree hF hs h
theorem z6u (d:Int) (f:Nat->Nat->Nat) (n:Nat) (hf:∀ k,k<n->∀ i,f k i<256) (ss:List (Nat × Nat)) (hs:INN ss n):∀ x∈CAT (TVAL d f) ss,0<=x/\x<=255:=fun x hx=>by
 obtain ⟨s,h1,h2⟩:=List.mem_flatMap.1 hx;exact (zgF hf (hs s h1)).2 x h2
theorem z9X (d:Int) (f:Nat->Nat->Nat) (ss:List (Nat × Nat)):(CAT (TVAL d f) ss).length=32*ss.length:=zbH fun s _=>z2S d f s.1 s.2
def PRB (n i:Nat) (l:List Int):List Int:=77 :: (z0j n ++ (z0j i ++ l))
theorem zaS {n i:Nat} (hi:i<n) (hn:n<=1000000) (l:List Int):ENC n i (PSP i n).length l=(0,PRB n i l):=by
 have e:PLA i n=(0,PLCS (PSP i n)):=by unfold PLA;rw [if_neg (by omega),if_neg (by omega)]
 unfold ENC ENCB PRB;rw [e];dsimp only;rw [z0P,if_neg (by simp),if_neg (by simp),List.append_assoc]
theorem zgG {n i:Nat} (hi:i<n) (hn:n<=1000000) (t:List Int):DEC (PRB n i t)=DC3 (fun S I=>PLA I S) n i t:=by
 unfold DEC PRB;exact z8W (by omega) (by omega) (by simp [z1L];omega) t
theorem z9Y {n i:Nat} (hi:i<n) (hn:n<=1000000) (t:List Int):DEC (PRB n i t)=if t.length<32*(PSP i n).length then DERR 11 else if 32*(PSP i n).length<t.length then DERR 13 else (0,n,i,(PSP i n).length,t):=by
 have e:PLA i n=(0,PLCS (PSP i n)):=by unfold PLA;rw [if_neg (by omega),if_neg (by omega)]
 rw [zgG hi hn];have h1:(PLA i n).1=0:=by rw [e]
 have h2:(PLA i n).2.length=(PSP i n).length:=by rw [e,z0P]
 unfold DC3;dsimp only;rw [if_neg (by simp [h1])];simp only [h2]
theorem z7L {n i:Nat} (hn:n<2 ^ 64) (hi:i<2 ^ 64) {l:List Int} (hl:∀ x∈l,0<=x/\x<=255):∀ x∈PRB n i l,0<=x/\x<=255:=fun x hx=>by
 unfold PRB at hx;rcases List.mem_cons.1 hx with rfl | hx
 ·decide
 ·rcases List.mem_append.1 hx with hx | hx
  ·exact z2L hn x hx
  ·rcases List.mem_append.1 hx with hx | hx
   ·exact z2L hi x hx
   ·exact hl x hx
end Go.Proofs.YtnimaaflmdoaaaaGreatDoor
namespace Go.Proofs.YtnimaaflmdoaaaaGreatDoor.HX
open Go.RowKit
set_option maxRecDepth 100000
theorem z52 {ops:Array Oper} {o:Oper} {a:Act} {w:World} {K:Act->World->Prop} {Q:Exit->Act->World->Prop} {E:Prop} (hg:o.guard=none) (ty:TypeId) (x:Operand) (ho:o.op=.load ty x)
  (b k:Nat) (hx:a.eval x=.pointer (some ⟨b,k,none⟩)) (cs:List Value) (d:TypeDesc) (hc:w.rangeAt b k cs) (hu:Tryz.prog.underlying ty=some d) (hd:d.isRow=true) (hi:(Tryz.prog.info? ty).map (·.size)=some cs.length)
  (h:K (a.put o.dst (.agg cs.toArray)) w):if Region.wanted o (yielded ops a.tmps)=true then Oper.wp Tryz.prog o a w K Q else E:=by
 have hw:Region.wanted o (yielded ops a.tmps)=true:=by simp [Region.wanted,hg]
 rw [if_pos hw];exact wp_load_mid ty x ho b k hx cs d hc hu hd hi h
def z2Y:Array Oper:=#[⟨some 28,.move (.tmp 0),43,"mmr.go:53",#[],none⟩,⟨some 29,.nilCheck (.tmp 28),0,"mmr.go:53",#[⟨0,.data⟩],none⟩,⟨some 30,.fieldAddr 86 (.tmp 29) 0,0,"mmr.go:53",#[⟨1,.data⟩],none⟩,⟨some 31,.load 23 (.tmp 3),23,"mmr.go:53",#[],none⟩,⟨some 32,.call {callee:=.value (.func 37),args:=#[.tmp 30,.tmp 31],argTypes:=#[84,23]},24,"mmr.go:53",#[⟨2,.data⟩,⟨3,.data⟩],none⟩]
theorem z9g {Q:Exit->Act->World->Prop} {u1 u2 u4 u5 u6 u7 u8 u9 u10 u11 u12 u13 u14 u15 u16 u17 u18 u19 u20 u21 u22 u23 u24 u25 u26 u27 u28 u29 u30 u31 u32 u33 u34 u35 u36 u37 u38 u39 u40 u41 u42 u43 u44 u45 u46 u47 u48 u49 u50 u51 u52 u53:Value} (W:World) (g b m:Nat) (x:Nat->Nat) (I J:World->Prop) (h0:I W.drew) (hI:∀ w,I w->w.rangeAt b 0 (z01 .u8 32 x)) (hJ:∀ w,J w->w.rangeAt b 0 (z01 .u8 32 x))
  (c1:∀ w,I w->Calls Tryz.prog 37 #[.pointer (some ⟨g,0,none⟩),.agg (UARR .u8 32 x)] w fun e w'=>e=.returned (.int .u64 (m:Int))/\J w') (hQ:∀ c (a:Act) (t:Tmp) (v:Value) w,Q (.panic c) (a.put (some t) v) w->Q (.panic c) a w)
  (hfin:∀ (w:World),(J w)->Q .normal {tmps:=#[.pointer (some ⟨g,0,none⟩),u1,u2,.pointer (some ⟨b,0,none⟩),u4,u5,u6,u7,u8,u9,u10,u11,u12,u13,u14,u15,u16,u17,u18,u19,u20,u21,u22,u23,u24,u25,u26,u27,.pointer (some ⟨g,0,none⟩),.pointer (some ⟨g,0,none⟩),.pointer (some ⟨g,0,none⟩),.agg (UARR .u8 32 x),.int .u64 (m:Int),u33,u34,u35,u36,u37,u38,u39,u40,u41,u42,u43,u44,u45,u46,u47,u48,u49,u50,u51,u52,u53],defers:=[]} w):(Code.region 6 z2Y true).wp Tryz.prog Q {tmps:=#[.pointer (some ⟨g,0,none⟩),u1,u2,.pointer (some ⟨b,0,none⟩),u4,u5,u6,u7,u8,u9,u10,u11,u12,u13,u14,u15,u16,u17,u18,u19,u20,u21,u22,u23,u24,u25,u26,u27,u28,u29,u30,u31,u32,u33,u34,u35,u36,u37,u38,u39,u40,u41,u42,u43,u44,u45,u46,u47,u48,u49,u50,u51,u52,u53],defers:=[]} W:=by
 have kst4:∀ (w:World),(J w)->wpAnyH Tryz.prog .any z2Y Q (fun w:World=>w.rangeAt b 0 (z01 .u8 32 x)) 0 #[true,true,true,true,true] {tmps:=#[.pointer (some ⟨g,0,none⟩),u1,u2,.pointer (some ⟨b,0,none⟩),u4,u5,u6,u7,u8,u9,u10,u11,u12,u13,u14,u15,u16,u17,u18,u19,u20,u21,u22,u23,u24,u25,u26,u27,.pointer (some ⟨g,0,none⟩),.pointer (some ⟨g,0,none⟩),.pointer (some ⟨g,0,none⟩),.agg (UARR .u8 32 x),.int .u64 (m:Int),u33,u34,u35,u36,u37,u38,u39,u40,u41,u42,u43,u44,u45,u46,u47,u48,u49,u50,u51,u52,u53],defers:=[]} w:=fun  w hp=>by
  exact wpAnyH_done (by kernel_rfl) (hfin  w hp) _
 have kst:∀ (w:World),(I w)->wpAnyH Tryz.prog .any z2Y Q (fun w:World=>w.rangeAt b 0 (z01 .u8 32 x)) 1 #[true,true,true,true,false] {tmps:=#[.pointer (some ⟨g,0,none⟩),u1,u2,.pointer (some ⟨b,0,none⟩),u4,u5,u6,u7,u8,u9,u10,u11,u12,u13,u14,u15,u16,u17,u18,u19,u20,u21,u22,u23,u24,u25,u26,u27,.pointer (some ⟨g,0,none⟩),.pointer (some ⟨g,0,none⟩),.pointer (some ⟨g,0,none⟩),.agg (UARR .u8 32 x),u32,u33,u34,u35,u36,u37,u38,u39,u40,u41,u42,u43,u44,u45,u46,u47,u48,u49,u50,u51,u52,u53],defers:=[]} w:=fun  w hp=>by
  refine wpAnyH_ready (rs:=[4]) (by kernel_rfl) (by simp) ?_;refine AllReadyH.cons (o:=⟨some 32,.call {callee:=.value (.func 37),args:=#[.tmp 30,.tmp 31],argTypes:=#[84,23]},24,"mmr.go:53",#[⟨2,.data⟩,⟨3,.data⟩],none⟩) rfl (fun KQ hKQ=>?_) ?_
  ·rw [if_pos (by rfl)]
   go_simp;refine (show Calls _ _ _ w (fun e w'=>e=.returned (.int .u64 (m:Int))/\(J w')) from c1 w hp).mono ?_;rintro e w' ⟨rfl,hp⟩;exact hKQ.out _ _ (hJ _ hp) (fun _=>kst4  w' hp)
  exact AllReadyH.nil
 have hp:=h0;have hww:(fun w:World=>w.rangeAt b 0 (z01 .u8 32 x)) W.drew:=hI _ hp;have last:=kst W.drew hp
 have z:wpAnyH Tryz.prog .any z2Y Q (fun w:World=>w.rangeAt b 0 (z01 .u8 32 x)) 5 #[false,false,false,false,false] {tmps:=#[.pointer (some ⟨g,0,none⟩),u1,u2,.pointer (some ⟨b,0,none⟩),u4,u5,u6,u7,u8,u9,u10,u11,u12,u13,u14,u15,u16,u17,u18,u19,u20,u21,u22,u23,u24,u25,u26,u27,u28,u29,u30,u31,u32,u33,u34,u35,u36,u37,u38,u39,u40,u41,u42,u43,u44,u45,u46,u47,u48,u49,u50,u51,u52,u53],defers:=[]} W.drew:=by
  have t3:wpAnyH Tryz.prog .any z2Y Q (fun w:World=>w.rangeAt b 0 (z01 .u8 32 x)) 2 #[true,true,true,false,false] {tmps:=#[.pointer (some ⟨g,0,none⟩),u1,u2,.pointer (some ⟨b,0,none⟩),u4,u5,u6,u7,u8,u9,u10,u11,u12,u13,u14,u15,u16,u17,u18,u19,u20,u21,u22,u23,u24,u25,u26,u27,.pointer (some ⟨g,0,none⟩),.pointer (some ⟨g,0,none⟩),.pointer (some ⟨g,0,none⟩),u31,u32,u33,u34,u35,u36,u37,u38,u39,u40,u41,u42,u43,u44,u45,u46,u47,u48,u49,u50,u51,u52,u53],defers:=[]} W.drew:=
   wpAnyH_take (i:=3) (oi:=⟨some 31,.load 23 (.tmp 3),23,"mmr.go:53",#[],none⟩) (v:=.agg (UARR .u8 32 x)) rfl (by kernel_rfl) (by kernel_rfl) (by kernel_rfl) (fun _ _ _ h=>hQ _ _ _ _ _ h) (yieldsIf_load_mid (by rfl) 23 (.tmp 3) rfl b 0 rfl (z01 .u8 32 x) _ (fun w h=>h) Tryz.underlying23 rfl (by rw [z09];exact z0r)) hww last
  have t2:wpAnyH Tryz.prog .any z2Y Q (fun w:World=>w.rangeAt b 0 (z01 .u8 32 x)) 3 #[true,true,false,false,false] {tmps:=#[.pointer (some ⟨g,0,none⟩),u1,u2,.pointer (some ⟨b,0,none⟩),u4,u5,u6,u7,u8,u9,u10,u11,u12,u13,u14,u15,u16,u17,u18,u19,u20,u21,u22,u23,u24,u25,u26,u27,.pointer (some ⟨g,0,none⟩),.pointer (some ⟨g,0,none⟩),u30,u31,u32,u33,u34,u35,u36,u37,u38,u39,u40,u41,u42,u43,u44,u45,u46,u47,u48,u49,u50,u51,u52,u53],defers:=[]} W.drew:=
   wpAnyH_take (i:=2) (oi:=⟨some 30,.fieldAddr 86 (.tmp 29) 0,0,"mmr.go:53",#[⟨1,.data⟩],none⟩) (v:=.pointer (some ⟨g,0,none⟩)) rfl (by kernel_rfl) (by kernel_rfl) (by kernel_rfl) (fun _ _ _ h=>hQ _ _ _ _ _ h) (Yields.yieldsIf (Or.inl ⟨by rfl,fun W=>by go_simp⟩)) hww t3
  have t1:wpAnyH Tryz.prog .any z2Y Q (fun w:World=>w.rangeAt b 0 (z01 .u8 32 x)) 4 #[true,false,false,false,false] {tmps:=#[.pointer (some ⟨g,0,none⟩),u1,u2,.pointer (some ⟨b,0,none⟩),u4,u5,u6,u7,u8,u9,u10,u11,u12,u13,u14,u15,u16,u17,u18,u19,u20,u21,u22,u23,u24,u25,u26,u27,.pointer (some ⟨g,0,none⟩),u29,u30,u31,u32,u33,u34,u35,u36,u37,u38,u39,u40,u41,u42,u43,u44,u45,u46,u47,u48,u49,u50,u51,u52,u53],defers:=[]} W.drew:=
   wpAnyH_take (i:=1) (oi:=⟨some 29,.nilCheck (.tmp 28),0,"mmr.go:53",#[⟨0,.data⟩],none⟩) (v:=.pointer (some ⟨g,0,none⟩)) rfl (by kernel_rfl) (by kernel_rfl) (by kernel_rfl) (fun _ _ _ h=>hQ _ _ _ _ _ h) (Yields.yieldsIf (Or.inl ⟨by rfl,fun W=>by go_simp⟩)) hww t2
  have t0:wpAnyH Tryz.prog .any z2Y Q (fun w:World=>w.rangeAt b 0 (z01 .u8 32 x)) 5 #[false,false,false,false,false] {tmps:=#[.pointer (some ⟨g,0,none⟩),u1,u2,.pointer (some ⟨b,0,none⟩),u4,u5,u6,u7,u8,u9,u10,u11,u12,u13,u14,u15,u16,u17,u18,u19,u20,u21,u22,u23,u24,u25,u26,u27,u28,u29,u30,u31,u32,u33,u34,u35,u36,u37,u38,u39,u40,u41,u42,u43,u44,u45,u46,u47,u48,u49,u50,u51,u52,u53],defers:=[]} W.drew:=
   wpAnyH_take (i:=0) (oi:=⟨some 28,.move (.tmp 0),43,"mmr.go:53",#[],none⟩) (v:=.pointer (some ⟨g,0,none⟩)) rfl (by kernel_rfl) (by kernel_rfl) (by kernel_rfl) (fun _ _ _ h=>hQ _ _ _ _ _ h) (Yields.yieldsIf (Or.inl ⟨by rfl,fun W=>by go_simp⟩)) hww t1
  exact t0
 exact wp_region_held_drew (S:=(fun w:World=>w.rangeAt b 0 (z01 .u8 32 x))) (by kernel_rfl) hww (fun _=>z)
def z2s:Array Oper:=#[⟨some 47,.move (.tmp 0),43,"mmr.go:56",#[],none⟩,⟨some 48,.nilCheck (.tmp 47),0,"mmr.go:56",#[⟨0,.data⟩],none⟩,⟨some 49,.fieldAddr 86 (.tmp 48) 0,0,"mmr.go:56",#[⟨1,.data⟩],none⟩,⟨some 50,.load 23 (.tmp 8),23,"mmr.go:56",#[],none⟩,⟨some 51,.call {callee:=.value (.func 37),args:=#[.tmp 49,.tmp 50],argTypes:=#[84,23]},24,"mmr.go:56",#[⟨2,.data⟩,⟨3,.data⟩],none⟩]
theorem z9Z {Q:Exit->Act->World->Prop} {u1 u2 u3 u4 u5 u6 u7 u9 u10 u11 u12 u13 u14 u15 u16 u17 u18 u19 u20 u21 u22 u23 u24 u25 u26 u27 u28 u29 u30 u31 u32 u33 u34 u35 u36 u37 u38 u39 u40 u41 u42 u43 u44 u45 u46 u47 u48 u49 u50 u51 u52 u53:Value} (W:World) (g b m:Nat) (x:Nat->Nat) (I J:World->Prop) (h0:I W.drew) (hI:∀ w,I w->w.rangeAt b 0 (z01 .u8 32 x)) (hJ:∀ w,J w->w.rangeAt b 0 (z01 .u8 32 x))
  (c1:∀ w,I w->Calls Tryz.prog 37 #[.pointer (some ⟨g,0,none⟩),.agg (UARR .u8 32 x)] w fun e w'=>e=.returned (.int .u64 (m:Int))/\J w') (hQ:∀ c (a:Act) (t:Tmp) (v:Value) w,Q (.panic c) (a.put (some t) v) w->Q (.panic c) a w)
  (hfin:∀ (w:World),(J w)->Q .normal {tmps:=#[.pointer (some ⟨g,0,none⟩),u1,u2,u3,u4,u5,u6,u7,.pointer (some ⟨b,0,none⟩),u9,u10,u11,u12,u13,u14,u15,u16,u17,u18,u19,u20,u21,u22,u23,u24,u25,u26,u27,u28,u29,u30,u31,u32,u33,u34,u35,u36,u37,u38,u39,u40,u41,u42,u43,u44,u45,u46,.pointer (some ⟨g,0,none⟩),.pointer (some ⟨g,0,none⟩),.pointer (some ⟨g,0,none⟩),.agg (UARR .u8 32 x),.int .u64 (m:Int),u52,u53],defers:=[]} w):(Code.region 11 z2s true).wp Tryz.prog Q {tmps:=#[.pointer (some ⟨g,0,none⟩),u1,u2,u3,u4,u5,u6,u7,.pointer (some ⟨b,0,none⟩),u9,u10,u11,u12,u13,u14,u15,u16,u17,u18,u19,u20,u21,u22,u23,u24,u25,u26,u27,u28,u29,u30,u31,u32,u33,u34,u35,u36,u37,u38,u39,u40,u41,u42,u43,u44,u45,u46,u47,u48,u49,u50,u51,u52,u53],defers:=[]} W:=by
 have kst4:∀ (w:World),(J w)->wpAnyH Tryz.prog .any z2s Q (fun w:World=>w.rangeAt b 0 (z01 .u8 32 x)) 0 #[true,true,true,true,true] {tmps:=#[.pointer (some ⟨g,0,none⟩),u1,u2,u3,u4,u5,u6,u7,.pointer (some ⟨b,0,none⟩),u9,u10,u11,u12,u13,u14,u15,u16,u17,u18,u19,u20,u21,u22,u23,u24,u25,u26,u27,u28,u29,u30,u31,u32,u33,u34,u35,u36,u37,u38,u39,u40,u41,u42,u43,u44,u45,u46,.pointer (some ⟨g,0,none⟩),.pointer (some ⟨g,0,none⟩),.pointer (some ⟨g,0,none⟩),.agg (UARR .u8 32 x),.int .u64 (m:Int),u52,u53],defers:=[]} w:=fun  w hp=>by
  exact wpAnyH_done (by kernel_rfl) (hfin  w hp) _
 have kst:∀ (w:World),(I w)->wpAnyH Tryz.prog .any z2s Q (fun w:World=>w.rangeAt b 0 (z01 .u8 32 x)) 1 #[true,true,true,true,false] {tmps:=#[.pointer (some ⟨g,0,none⟩),u1,u2,u3,u4,u5,u6,u7,.pointer (some ⟨b,0,none⟩),u9,u10,u11,u12,u13,u14,u15,u16,u17,u18,u19,u20,u21,u22,u23,u24,u25,u26,u27,u28,u29,u30,u31,u32,u33,u34,u35,u36,u37,u38,u39,u40,u41,u42,u43,u44,u45,u46,.pointer (some ⟨g,0,none⟩),.pointer (some ⟨g,0,none⟩),.pointer (some ⟨g,0,none⟩),.agg (UARR .u8 32 x),u51,u52,u53],defers:=[]} w:=fun  w hp=>by
  refine wpAnyH_ready (rs:=[4]) (by kernel_rfl) (by simp) ?_;refine AllReadyH.cons (o:=⟨some 51,.call {callee:=.value (.func 37),args:=#[.tmp 49,.tmp 50],argTypes:=#[84,23]},24,"mmr.go:56",#[⟨2,.data⟩,⟨3,.data⟩],none⟩) rfl (fun KQ hKQ=>?_) ?_
  ·rw [if_pos (by rfl)]
   go_simp;refine (show Calls _ _ _ w (fun e w'=>e=.returned (.int .u64 (m:Int))/\(J w')) from c1 w hp).mono ?_;rintro e w' ⟨rfl,hp⟩;exact hKQ.out _ _ (hJ _ hp) (fun _=>kst4  w' hp)
  exact AllReadyH.nil
 have hp:=h0;have hww:(fun w:World=>w.rangeAt b 0 (z01 .u8 32 x)) W.drew:=hI _ hp;have last:=kst W.drew hp
 have z:wpAnyH Tryz.prog .any z2s Q (fun w:World=>w.rangeAt b 0 (z01 .u8 32 x)) 5 #[false,false,false,false,false] {tmps:=#[.pointer (some ⟨g,0,none⟩),u1,u2,u3,u4,u5,u6,u7,.pointer (some ⟨b,0,none⟩),u9,u10,u11,u12,u13,u14,u15,u16,u17,u18,u19,u20,u21,u22,u23,u24,u25,u26,u27,u28,u29,u30,u31,u32,u33,u34,u35,u36,u37,u38,u39,u40,u41,u42,u43,u44,u45,u46,u47,u48,u49,u50,u51,u52,u53],defers:=[]} W.drew:=by
  have t3:wpAnyH Tryz.prog .any z2s Q (fun w:World=>w.rangeAt b 0 (z01 .u8 32 x)) 2 #[true,true,true,false,false] {tmps:=#[.pointer (some ⟨g,0,none⟩),u1,u2,u3,u4,u5,u6,u7,.pointer (some ⟨b,0,none⟩),u9,u10,u11,u12,u13,u14,u15,u16,u17,u18,u19,u20,u21,u22,u23,u24,u25,u26,u27,u28,u29,u30,u31,u32,u33,u34,u35,u36,u37,u38,u39,u40,u41,u42,u43,u44,u45,u46,.pointer (some ⟨g,0,none⟩),.pointer (some ⟨g,0,none⟩),.pointer (some ⟨g,0,none⟩),u50,u51,u52,u53],defers:=[]} W.drew:=
   wpAnyH_take (i:=3) (oi:=⟨some 50,.load 23 (.tmp 8),23,"mmr.go:56",#[],none⟩) (v:=.agg (UARR .u8 32 x)) rfl (by kernel_rfl) (by kernel_rfl) (by kernel_rfl) (fun _ _ _ h=>hQ _ _ _ _ _ h) (yieldsIf_load_mid (by rfl) 23 (.tmp 8) rfl b 0 rfl (z01 .u8 32 x) _ (fun w h=>h) Tryz.underlying23 rfl (by rw [z09];exact z0r)) hww last
  have t2:wpAnyH Tryz.prog .any z2s Q (fun w:World=>w.rangeAt b 0 (z01 .u8 32 x)) 3 #[true,true,false,false,false] {tmps:=#[.pointer (some ⟨g,0,none⟩),u1,u2,u3,u4,u5,u6,u7,.pointer (some ⟨b,0,none⟩),u9,u10,u11,u12,u13,u14,u15,u16,u17,u18,u19,u20,u21,u22,u23,u24,u25,u26,u27,u28,u29,u30,u31,u32,u33,u34,u35,u36,u37,u38,u39,u40,u41,u42,u43,u44,u45,u46,.pointer (some ⟨g,0,none⟩),.pointer (some ⟨g,0,none⟩),u49,u50,u51,u52,u53],defers:=[]} W.drew:=
   wpAnyH_take (i:=2) (oi:=⟨some 49,.fieldAddr 86 (.tmp 48) 0,0,"mmr.go:56",#[⟨1,.data⟩],none⟩) (v:=.pointer (some ⟨g,0,none⟩)) rfl (by kernel_rfl) (by kernel_rfl) (by kernel_rfl) (fun _ _ _ h=>hQ _ _ _ _ _ h) (Yields.yieldsIf (Or.inl ⟨by rfl,fun W=>by go_simp⟩)) hww t3
  have t1:wpAnyH Tryz.prog .any z2s Q (fun w:World=>w.rangeAt b 0 (z01 .u8 32 x)) 4 #[true,false,false,false,false] {tmps:=#[.pointer (some ⟨g,0,none⟩),u1,u2,u3,u4,u5,u6,u7,.pointer (some ⟨b,0,none⟩),u9,u10,u11,u12,u13,u14,u15,u16,u17,u18,u19,u20,u21,u22,u23,u24,u25,u26,u27,u28,u29,u30,u31,u32,u33,u34,u35,u36,u37,u38,u39,u40,u41,u42,u43,u44,u45,u46,.pointer (some ⟨g,0,none⟩),u48,u49,u50,u51,u52,u53],defers:=[]} W.drew:=
   wpAnyH_take (i:=1) (oi:=⟨some 48,.nilCheck (.tmp 47),0,"mmr.go:56",#[⟨0,.data⟩],none⟩) (v:=.pointer (some ⟨g,0,none⟩)) rfl (by kernel_rfl) (by kernel_rfl) (by kernel_rfl) (fun _ _ _ h=>hQ _ _ _ _ _ h) (Yields.yieldsIf (Or.inl ⟨by rfl,fun W=>by go_simp⟩)) hww t2
  have t0:wpAnyH Tryz.prog .any z2s Q (fun w:World=>w.rangeAt b 0 (z01 .u8 32 x)) 5 #[false,false,false,false,false] {tmps:=#[.pointer (some ⟨g,0,none⟩),u1,u2,u3,u4,u5,u6,u7,.pointer (some ⟨b,0,none⟩),u9,u10,u11,u12,u13,u14,u15,u16,u17,u18,u19,u20,u21,u22,u23,u24,u25,u26,u27,u28,u29,u30,u31,u32,u33,u34,u35,u36,u37,u38,u39,u40,u41,u42,u43,u44,u45,u46,u47,u48,u49,u50,u51,u52,u53],defers:=[]} W.drew:=
   wpAnyH_take (i:=0) (oi:=⟨some 47,.move (.tmp 0),43,"mmr.go:56",#[],none⟩) (v:=.pointer (some ⟨g,0,none⟩)) rfl (by kernel_rfl) (by kernel_rfl) (by kernel_rfl) (fun _ _ _ h=>hQ _ _ _ _ _ h) (Yields.yieldsIf (Or.inl ⟨by rfl,fun W=>by go_simp⟩)) hww t1
  exact t0
 exact wp_region_held_drew (S:=(fun w:World=>w.rangeAt b 0 (z01 .u8 32 x))) (by kernel_rfl) hww (fun _=>z)
def z1d:Array Oper:=#[⟨some 38,.move (.tmp 0),43,"mmr.go:55",#[],none⟩,⟨some 39,.nilCheck (.tmp 38),0,"mmr.go:55",#[⟨0,.data⟩],none⟩,⟨some 40,.fieldAddr 86 (.tmp 39) 1,0,"mmr.go:55",#[⟨1,.data⟩],none⟩,⟨some 41,.load 3 (.tmp 40),3,"mmr.go:55",#[⟨2,.data⟩],none⟩,⟨some 42,.move (.tmp 0),43,"mmr.go:55",#[],none⟩,⟨some 43,.move (.tmp 6),24,"mmr.go:55",#[],none⟩,⟨some 44,.call {callee:=.value (.func 40),args:=#[.tmp 42,.tmp 43],argTypes:=#[43,24]},23,"mmr.go:55",#[⟨4,.data⟩,⟨5,.data⟩],none⟩,⟨some 45,.load 23 (.tmp 8),23,"mmr.go:55",#[],none⟩,⟨some 46,.call {callee:=.value (.func 39),args:=#[.tmp 41,.tmp 44,.tmp 45],argTypes:=#[3,23,23]},23,"mmr.go:55",#[⟨3,.data⟩,⟨6,.data⟩,⟨7,.data⟩,⟨6,.chain⟩],none⟩,⟨none,.store 23 (.tmp 8) (.tmp 46),0,"mmr.go:55",#[⟨8,.data⟩,⟨8,.chain⟩,⟨0,.phase⟩,⟨1,.phase⟩,⟨2,.phase⟩,⟨3,.phase⟩,⟨4,.phase⟩,⟨5,.phase⟩,⟨6,.phase⟩,⟨7,.phase⟩,⟨8,.phase⟩],none⟩]
theorem za0 {Q:Exit->Act->World->Prop} {u1 u2 u3 u4 u5 u7 u9 u10 u11 u12 u13 u14 u15 u16 u17 u18 u19 u20 u21 u22 u23 u24 u25 u26 u27 u28 u29 u30 u31 u32 u33 u34 u35 u36 u37 u38 u39 u40 u41 u42 u43 u44 u45 u46 u47 u48 u49 u50 u51 u52 u53:Value} (W:World) (g b p:Nat) (d:Int) (l x y:Nat->Nat) (I:World->Prop) (h0:I W.drew) (hI:∀ w,I w->w.cell? ⟨g,5,none⟩=some (.int .i64 d)/\w.rangeAt b 0 (z01 .u8 32 x)/\Has w b (UARR .u8 32 x) 23) (hK5:∀ w,I w->(w.setRow b (UARR .u8 32 y)).cell? ⟨g,5,none⟩=some (.int .i64 d))
  (c1:∀ w,I w->Calls Tryz.prog 40 #[.pointer (some ⟨g,0,none⟩),.int .u64 (p:Int)] w fun e w'=>e=.returned (.agg (UARR .u8 32 l))/\I w') (c2:∀ w,I w->Calls Tryz.prog 39 #[.int .i64 d,.agg (UARR .u8 32 l),.agg (UARR .u8 32 x)] w fun e w'=>e=.returned (.agg (UARR .u8 32 y))/\I w') (hQ:∀ c (a:Act) (t:Tmp) (v:Value) w,Q (.panic c) (a.put (some t) v) w->Q (.panic c) a w)
  (hfin:∀ (w:World),(∃ w0:World,I w0/\w=w0.setRow b (UARR .u8 32 y))->Q .normal {tmps:=#[.pointer (some ⟨g,0,none⟩),u1,u2,u3,u4,u5,.int .u64 (p:Int),u7,.pointer (some ⟨b,0,none⟩),u9,u10,u11,u12,u13,u14,u15,u16,u17,u18,u19,u20,u21,u22,u23,u24,u25,u26,u27,u28,u29,u30,u31,u32,u33,u34,u35,u36,u37,.pointer (some ⟨g,0,none⟩),.pointer (some ⟨g,0,none⟩),.pointer (some ⟨g,5,none⟩),.int .i64 d,.pointer (some ⟨g,0,none⟩),.int .u64 (p:Int),.agg (UARR .u8 32 l),.agg (UARR .u8 32 x),.agg (UARR .u8 32 y),u47,u48,u49,u50,u51,u52,u53],defers:=[]} w):(Code.region 10 z1d true).wp Tryz.prog Q {tmps:=#[.pointer (some ⟨g,0,none⟩),u1,u2,u3,u4,u5,.int .u64 (p:Int),u7,.pointer (some ⟨b,0,none⟩),u9,u10,u11,u12,u13,u14,u15,u16,u17,u18,u19,u20,u21,u22,u23,u24,u25,u26,u27,u28,u29,u30,u31,u32,u33,u34,u35,u36,u37,u38,u39,u40,u41,u42,u43,u44,u45,u46,u47,u48,u49,u50,u51,u52,u53],defers:=[]} W:=by
 have kst6_7_8_9:∀ (w:World),(∃ w0:World,I w0/\w=w0.setRow b (UARR .u8 32 y))->wpAnyH Tryz.prog .any z1d Q (fun w:World=>w.cell? ⟨g,5,none⟩=some (.int .i64 d)) 0 #[true,true,true,true,true,true,true,true,true,true] {tmps:=#[.pointer (some ⟨g,0,none⟩),u1,u2,u3,u4,u5,.int .u64 (p:Int),u7,.pointer (some ⟨b,0,none⟩),u9,u10,u11,u12,u13,u14,u15,u16,u17,u18,u19,u20,u21,u22,u23,u24,u25,u26,u27,u28,u29,u30,u31,u32,u33,u34,u35,u36,u37,.pointer (some ⟨g,0,none⟩),.pointer (some ⟨g,0,none⟩),.pointer (some ⟨g,5,none⟩),.int .i64 d,.pointer (some ⟨g,0,none⟩),.int .u64 (p:Int),.agg (UARR .u8 32 l),.agg (UARR .u8 32 x),.agg (UARR .u8 32 y),u47,u48,u49,u50,u51,u52,u53],defers:=[]} w:=fun  w hp=>by
  exact wpAnyH_done (by kernel_rfl) (hfin  w hp) _
 have kst6_7_8:∀ (w:World),(I w)->wpAnyH Tryz.prog .any z1d Q (fun w:World=>w.cell? ⟨g,5,none⟩=some (.int .i64 d)) 1 #[true,true,true,true,true,true,true,true,true,false] {tmps:=#[.pointer (some ⟨g,0,none⟩),u1,u2,u3,u4,u5,.int .u64 (p:Int),u7,.pointer (some ⟨b,0,none⟩),u9,u10,u11,u12,u13,u14,u15,u16,u17,u18,u19,u20,u21,u22,u23,u24,u25,u26,u27,u28,u29,u30,u31,u32,u33,u34,u35,u36,u37,.pointer (some ⟨g,0,none⟩),.pointer (some ⟨g,0,none⟩),.pointer (some ⟨g,5,none⟩),.int .i64 d,.pointer (some ⟨g,0,none⟩),.int .u64 (p:Int),.agg (UARR .u8 32 l),.agg (UARR .u8 32 x),.agg (UARR .u8 32 y),u47,u48,u49,u50,u51,u52,u53],defers:=[]} w:=fun  w hp=>by
  refine wpAnyH_ready (rs:=[9]) (by kernel_rfl) (by simp) ?_;refine AllReadyH.cons (o:=⟨none,.store 23 (.tmp 8) (.tmp 46),0,"mmr.go:55",#[⟨8,.data⟩,⟨8,.chain⟩,⟨0,.phase⟩,⟨1,.phase⟩,⟨2,.phase⟩,⟨3,.phase⟩,⟨4,.phase⟩,⟨5,.phase⟩,⟨6,.phase⟩,⟨7,.phase⟩,⟨8,.phase⟩],none⟩) rfl (fun KQ hKQ=>?_) ?_
  ·exact z0A rfl (z1k (z4w (hI _ hp).2.2 y)) (have hp:(fun (w:World)=>(∃ w0:World,I w0/\w=w0.setRow b (UARR .u8 32 y)))  _:=⟨w,hp,rfl⟩;hKQ.out _ _ ((by obtain ⟨w0,h1,h2⟩:=hp; (first | rw [h2] | skip);exact hK5 _ h1)) (fun _=>kst6_7_8_9  _ hp))
  exact AllReadyH.nil
 have kst6_7:∀ (w:World),(I w)->wpAnyH Tryz.prog .any z1d Q (fun w:World=>w.cell? ⟨g,5,none⟩=some (.int .i64 d)) 2 #[true,true,true,true,true,true,true,true,false,false] {tmps:=#[.pointer (some ⟨g,0,none⟩),u1,u2,u3,u4,u5,.int .u64 (p:Int),u7,.pointer (some ⟨b,0,none⟩),u9,u10,u11,u12,u13,u14,u15,u16,u17,u18,u19,u20,u21,u22,u23,u24,u25,u26,u27,u28,u29,u30,u31,u32,u33,u34,u35,u36,u37,.pointer (some ⟨g,0,none⟩),.pointer (some ⟨g,0,none⟩),.pointer (some ⟨g,5,none⟩),.int .i64 d,.pointer (some ⟨g,0,none⟩),.int .u64 (p:Int),.agg (UARR .u8 32 l),.agg (UARR .u8 32 x),u46,u47,u48,u49,u50,u51,u52,u53],defers:=[]} w:=fun  w hp=>by
  refine wpAnyH_ready (rs:=[8]) (by kernel_rfl) (by simp) ?_;refine AllReadyH.cons (o:=⟨some 46,.call {callee:=.value (.func 39),args:=#[.tmp 41,.tmp 44,.tmp 45],argTypes:=#[3,23,23]},23,"mmr.go:55",#[⟨3,.data⟩,⟨6,.data⟩,⟨7,.data⟩,⟨6,.chain⟩],none⟩) rfl (fun KQ hKQ=>?_) ?_
  ·rw [if_pos (by rfl)]
   go_simp;refine (show Calls _ _ _ w (fun e w'=>e=.returned (.agg (UARR .u8 32 y))/\(I w')) from c2 w hp).mono ?_;rintro e w' ⟨rfl,hp⟩;exact hKQ.out _ _ ((hI _ hp).1) (fun _=>kst6_7_8  w' hp)
  exact AllReadyH.nil
 have kst6:∀ (w:World),(I w)->wpAnyH Tryz.prog .any z1d Q (fun w:World=>w.cell? ⟨g,5,none⟩=some (.int .i64 d)) 3 #[true,true,true,true,true,true,true,false,false,false] {tmps:=#[.pointer (some ⟨g,0,none⟩),u1,u2,u3,u4,u5,.int .u64 (p:Int),u7,.pointer (some ⟨b,0,none⟩),u9,u10,u11,u12,u13,u14,u15,u16,u17,u18,u19,u20,u21,u22,u23,u24,u25,u26,u27,u28,u29,u30,u31,u32,u33,u34,u35,u36,u37,.pointer (some ⟨g,0,none⟩),.pointer (some ⟨g,0,none⟩),.pointer (some ⟨g,5,none⟩),.int .i64 d,.pointer (some ⟨g,0,none⟩),.int .u64 (p:Int),.agg (UARR .u8 32 l),u45,u46,u47,u48,u49,u50,u51,u52,u53],defers:=[]} w:=fun  w hp=>by
  refine wpAnyH_ready (rs:=[7]) (by kernel_rfl) (by simp) ?_;refine AllReadyH.cons (o:=⟨some 45,.load 23 (.tmp 8),23,"mmr.go:55",#[],none⟩) rfl (fun KQ hKQ=>?_) ?_
  ·exact z52 rfl 23 (.tmp 8) rfl b 0 rfl (z01 .u8 32 x) _ (hI _ hp).2.1 Tryz.underlying23 rfl (by rw [z09];exact z0r) (have hp:(fun (w:World)=>(I w))  w:=hp;hKQ.out _ _ ((hI _ hp).1) (fun _=>kst6_7  _ hp))
  exact AllReadyH.nil
 have kst7:∀ (w:World),(I w)->wpAnyH Tryz.prog .any z1d Q (fun w:World=>w.cell? ⟨g,5,none⟩=some (.int .i64 d)) 3 #[true,true,true,true,true,true,false,true,false,false] {tmps:=#[.pointer (some ⟨g,0,none⟩),u1,u2,u3,u4,u5,.int .u64 (p:Int),u7,.pointer (some ⟨b,0,none⟩),u9,u10,u11,u12,u13,u14,u15,u16,u17,u18,u19,u20,u21,u22,u23,u24,u25,u26,u27,u28,u29,u30,u31,u32,u33,u34,u35,u36,u37,.pointer (some ⟨g,0,none⟩),.pointer (some ⟨g,0,none⟩),.pointer (some ⟨g,5,none⟩),.int .i64 d,.pointer (some ⟨g,0,none⟩),.int .u64 (p:Int),u44,.agg (UARR .u8 32 x),u46,u47,u48,u49,u50,u51,u52,u53],defers:=[]} w:=fun  w hp=>by
  refine wpAnyH_ready (rs:=[6]) (by kernel_rfl) (by simp) ?_;refine AllReadyH.cons (o:=⟨some 44,.call {callee:=.value (.func 40),args:=#[.tmp 42,.tmp 43],argTypes:=#[43,24]},23,"mmr.go:55",#[⟨4,.data⟩,⟨5,.data⟩],none⟩) rfl (fun KQ hKQ=>?_) ?_
  ·rw [if_pos (by rfl)]
   go_simp;refine (show Calls _ _ _ w (fun e w'=>e=.returned (.agg (UARR .u8 32 l))/\(I w')) from c1 w hp).mono ?_;rintro e w' ⟨rfl,hp⟩;exact hKQ.out _ _ ((hI _ hp).1) (fun _=>kst6_7  w' hp)
  exact AllReadyH.nil
 have kst:∀ (w:World),(I w)->wpAnyH Tryz.prog .any z1d Q (fun w:World=>w.cell? ⟨g,5,none⟩=some (.int .i64 d)) 4 #[true,true,true,true,true,true,false,false,false,false] {tmps:=#[.pointer (some ⟨g,0,none⟩),u1,u2,u3,u4,u5,.int .u64 (p:Int),u7,.pointer (some ⟨b,0,none⟩),u9,u10,u11,u12,u13,u14,u15,u16,u17,u18,u19,u20,u21,u22,u23,u24,u25,u26,u27,u28,u29,u30,u31,u32,u33,u34,u35,u36,u37,.pointer (some ⟨g,0,none⟩),.pointer (some ⟨g,0,none⟩),.pointer (some ⟨g,5,none⟩),.int .i64 d,.pointer (some ⟨g,0,none⟩),.int .u64 (p:Int),u44,u45,u46,u47,u48,u49,u50,u51,u52,u53],defers:=[]} w:=fun  w hp=>by
  refine wpAnyH_ready (rs:=[6,7]) (by kernel_rfl) (by simp) ?_;refine AllReadyH.cons (o:=⟨some 44,.call {callee:=.value (.func 40),args:=#[.tmp 42,.tmp 43],argTypes:=#[43,24]},23,"mmr.go:55",#[⟨4,.data⟩,⟨5,.data⟩],none⟩) rfl (fun KQ hKQ=>?_) ?_
  ·rw [if_pos (by rfl)]
   go_simp;refine (show Calls _ _ _ w (fun e w'=>e=.returned (.agg (UARR .u8 32 l))/\(I w')) from c1 w hp).mono ?_;rintro e w' ⟨rfl,hp⟩;exact hKQ.out _ _ ((hI _ hp).1) (fun _=>kst6  w' hp)
  refine AllReadyH.cons (o:=⟨some 45,.load 23 (.tmp 8),23,"mmr.go:55",#[],none⟩) rfl (fun KQ hKQ=>?_) ?_
  ·exact z52 rfl 23 (.tmp 8) rfl b 0 rfl (z01 .u8 32 x) _ (hI _ hp).2.1 Tryz.underlying23 rfl (by rw [z09];exact z0r) (have hp:(fun (w:World)=>(I w))  w:=hp;hKQ.out _ _ ((hI _ hp).1) (fun _=>kst7  _ hp))
  exact AllReadyH.nil
 have hp:=h0;have hww:(fun w:World=>w.cell? ⟨g,5,none⟩=some (.int .i64 d)) W.drew:=(hI _ hp).1;have last:=kst W.drew hp
 have z:wpAnyH Tryz.prog .any z1d Q (fun w:World=>w.cell? ⟨g,5,none⟩=some (.int .i64 d)) 10 #[false,false,false,false,false,false,false,false,false,false] {tmps:=#[.pointer (some ⟨g,0,none⟩),u1,u2,u3,u4,u5,.int .u64 (p:Int),u7,.pointer (some ⟨b,0,none⟩),u9,u10,u11,u12,u13,u14,u15,u16,u17,u18,u19,u20,u21,u22,u23,u24,u25,u26,u27,u28,u29,u30,u31,u32,u33,u34,u35,u36,u37,u38,u39,u40,u41,u42,u43,u44,u45,u46,u47,u48,u49,u50,u51,u52,u53],defers:=[]} W.drew:=by
  have t5:wpAnyH Tryz.prog .any z1d Q (fun w:World=>w.cell? ⟨g,5,none⟩=some (.int .i64 d)) 5 #[true,true,true,true,true,false,false,false,false,false] {tmps:=#[.pointer (some ⟨g,0,none⟩),u1,u2,u3,u4,u5,.int .u64 (p:Int),u7,.pointer (some ⟨b,0,none⟩),u9,u10,u11,u12,u13,u14,u15,u16,u17,u18,u19,u20,u21,u22,u23,u24,u25,u26,u27,u28,u29,u30,u31,u32,u33,u34,u35,u36,u37,.pointer (some ⟨g,0,none⟩),.pointer (some ⟨g,0,none⟩),.pointer (some ⟨g,5,none⟩),.int .i64 d,.pointer (some ⟨g,0,none⟩),u43,u44,u45,u46,u47,u48,u49,u50,u51,u52,u53],defers:=[]} W.drew:=
   wpAnyH_take (i:=5) (oi:=⟨some 43,.move (.tmp 6),24,"mmr.go:55",#[],none⟩) (v:=.int .u64 (p:Int)) rfl (by kernel_rfl) (by kernel_rfl) (by kernel_rfl) (fun _ _ _ h=>hQ _ _ _ _ _ h) (Yields.yieldsIf (Or.inl ⟨by rfl,fun W=>by go_simp⟩)) hww last
  have t4:wpAnyH Tryz.prog .any z1d Q (fun w:World=>w.cell? ⟨g,5,none⟩=some (.int .i64 d)) 6 #[true,true,true,true,false,false,false,false,false,false] {tmps:=#[.pointer (some ⟨g,0,none⟩),u1,u2,u3,u4,u5,.int .u64 (p:Int),u7,.pointer (some ⟨b,0,none⟩),u9,u10,u11,u12,u13,u14,u15,u16,u17,u18,u19,u20,u21,u22,u23,u24,u25,u26,u27,u28,u29,u30,u31,u32,u33,u34,u35,u36,u37,.pointer (some ⟨g,0,none⟩),.pointer (some ⟨g,0,none⟩),.pointer (some ⟨g,5,none⟩),.int .i64 d,u42,u43,u44,u45,u46,u47,u48,u49,u50,u51,u52,u53],defers:=[]} W.drew:=
   wpAnyH_take (i:=4) (oi:=⟨some 42,.move (.tmp 0),43,"mmr.go:55",#[],none⟩) (v:=.pointer (some ⟨g,0,none⟩)) rfl (by kernel_rfl) (by kernel_rfl) (by kernel_rfl) (fun _ _ _ h=>hQ _ _ _ _ _ h) (Yields.yieldsIf (Or.inl ⟨by rfl,fun W=>by go_simp⟩)) hww t5
  have t3:wpAnyH Tryz.prog .any z1d Q (fun w:World=>w.cell? ⟨g,5,none⟩=some (.int .i64 d)) 7 #[true,true,true,false,false,false,false,false,false,false] {tmps:=#[.pointer (some ⟨g,0,none⟩),u1,u2,u3,u4,u5,.int .u64 (p:Int),u7,.pointer (some ⟨b,0,none⟩),u9,u10,u11,u12,u13,u14,u15,u16,u17,u18,u19,u20,u21,u22,u23,u24,u25,u26,u27,u28,u29,u30,u31,u32,u33,u34,u35,u36,u37,.pointer (some ⟨g,0,none⟩),.pointer (some ⟨g,0,none⟩),.pointer (some ⟨g,5,none⟩),u41,u42,u43,u44,u45,u46,u47,u48,u49,u50,u51,u52,u53],defers:=[]} W.drew:=
   wpAnyH_take (i:=3) (oi:=⟨some 41,.load 3 (.tmp 40),3,"mmr.go:55",#[⟨2,.data⟩],none⟩) (v:=.int .i64 d) rfl (by kernel_rfl) (by kernel_rfl) (by kernel_rfl) (fun _ _ _ h=>hQ _ _ _ _ _ h) (Or.inl ⟨by rfl,fun w hw=>by have hx:w.cell? ⟨g,5,none⟩=some (.int .i64 d):=hw;go_simp⟩) hww t4
  have t2:wpAnyH Tryz.prog .any z1d Q (fun w:World=>w.cell? ⟨g,5,none⟩=some (.int .i64 d)) 8 #[true,true,false,false,false,false,false,false,false,false] {tmps:=#[.pointer (some ⟨g,0,none⟩),u1,u2,u3,u4,u5,.int .u64 (p:Int),u7,.pointer (some ⟨b,0,none⟩),u9,u10,u11,u12,u13,u14,u15,u16,u17,u18,u19,u20,u21,u22,u23,u24,u25,u26,u27,u28,u29,u30,u31,u32,u33,u34,u35,u36,u37,.pointer (some ⟨g,0,none⟩),.pointer (some ⟨g,0,none⟩),u40,u41,u42,u43,u44,u45,u46,u47,u48,u49,u50,u51,u52,u53],defers:=[]} W.drew:=
   wpAnyH_take (i:=2) (oi:=⟨some 40,.fieldAddr 86 (.tmp 39) 1,0,"mmr.go:55",#[⟨1,.data⟩],none⟩) (v:=.pointer (some ⟨g,5,none⟩)) rfl (by kernel_rfl) (by kernel_rfl) (by kernel_rfl) (fun _ _ _ h=>hQ _ _ _ _ _ h) (Yields.yieldsIf (Or.inl ⟨by rfl,fun W=>by go_simp⟩)) hww t3
  have t1:wpAnyH Tryz.prog .any z1d Q (fun w:World=>w.cell? ⟨g,5,none⟩=some (.int .i64 d)) 9 #[true,false,false,false,false,false,false,false,false,false] {tmps:=#[.pointer (some ⟨g,0,none⟩),u1,u2,u3,u4,u5,.int .u64 (p:Int),u7,.pointer (some ⟨b,0,none⟩),u9,u10,u11,u12,u13,u14,u15,u16,u17,u18,u19,u20,u21,u22,u23,u24,u25,u26,u27,u28,u29,u30,u31,u32,u33,u34,u35,u36,u37,.pointer (some ⟨g,0,none⟩),u39,u40,u41,u42,u43,u44,u45,u46,u47,u48,u49,u50,u51,u52,u53],defers:=[]} W.drew:=
   wpAnyH_take (i:=1) (oi:=⟨some 39,.nilCheck (.tmp 38),0,"mmr.go:55",#[⟨0,.data⟩],none⟩) (v:=.pointer (some ⟨g,0,none⟩)) rfl (by kernel_rfl) (by kernel_rfl) (by kernel_rfl) (fun _ _ _ h=>hQ _ _ _ _ _ h) (Yields.yieldsIf (Or.inl ⟨by rfl,fun W=>by go_simp⟩)) hww t2
  have t0:wpAnyH Tryz.prog .any z1d Q (fun w:World=>w.cell? ⟨g,5,none⟩=some (.int .i64 d)) 10 #[false,false,false,false,false,false,false,false,false,false] {tmps:=#[.pointer (some ⟨g,0,none⟩),u1,u2,u3,u4,u5,.int .u64 (p:Int),u7,.pointer (some ⟨b,0,none⟩),u9,u10,u11,u12,u13,u14,u15,u16,u17,u18,u19,u20,u21,u22,u23,u24,u25,u26,u27,u28,u29,u30,u31,u32,u33,u34,u35,u36,u37,u38,u39,u40,u41,u42,u43,u44,u45,u46,u47,u48,u49,u50,u51,u52,u53],defers:=[]} W.drew:=
   wpAnyH_take (i:=0) (oi:=⟨some 38,.move (.tmp 0),43,"mmr.go:55",#[],none⟩) (v:=.pointer (some ⟨g,0,none⟩)) rfl (by kernel_rfl) (by kernel_rfl) (by kernel_rfl) (fun _ _ _ h=>hQ _ _ _ _ _ h) (Yields.yieldsIf (Or.inl ⟨by rfl,fun W=>by go_simp⟩)) hww t1
  exact t0
 exact wp_region_held_drew (S:=(fun w:World=>w.cell? ⟨g,5,none⟩=some (.int .i64 d))) (by kernel_rfl) hww (fun _=>z)
end Go.Proofs.YtnimaaflmdoaaaaGreatDoor.HX
