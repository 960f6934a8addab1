/- ClashAcross: part 12. -/
import Derived.Test.YtdggkbpabjgdfaaGreatDoorClashAcrossP11
set_option maxHeartbeats 4000000
namespace Go.Proofs.YtdggkbpabjgdfaaGreatDoor
open Go.RowKit
set_option maxRecDepth 100000
def JN (d:Int) (I:Nat) (M:Nat->Nat->List Int):Nat->Nat->Nat->List Int
 | 0=>M
 | t+1=>MPUT (JN d I M t) (t+1) (I / 2 ^ (t+1)) (z0o d (JN d I M t t (2*(I / 2 ^ (t+1)))) (JN d I M t t (2*(I / 2 ^ (t+1))+1)))
def CLM (d:Int) (leaf:List Int) (S I:Nat) (l:List Int):Nat->Nat->List Int:=JN d I (MPUT (HAND (PSP I S) l (PSP I S).length) 0 I leaf) (RISE I S)
def CLA (d:Int) (leaf:List Int) (S I n:Nat) (l:List Int):Int × Nat × List Int:=if (PLA I S).1≠0 then ((PLA I S).1,0,[]) else if n≠(PLA I S).2.length then (70,0,[]) else (0,PC S,CAT (CLM d leaf S I l) (SPAN 0 S))
theorem z4n:IsH ZND:=⟨rfl,fun x hx=>by
 have:x=0:=by simpa [ZND] using hx
 omega⟩
theorem z3w {M:Nat->Nat->List Int} (h:∀ a b,IsH (M a b)) {x:List Int} (hx:IsH x) (p q a b:Nat):IsH (MPUT M p q x a b):=by
 unfold MPUT;split
 ·exact hx
 ·exact h a b
theorem z1E {l:List Int} {n i:Nat} (hl:l.length=32*n) (hr:∀ x∈l,0<=x/\x<=255) (hi:i<n):IsH (HSH l i):=⟨z16 hl hi,fun x hx=>hr x (zhP hx)⟩
theorem z2D {ss:List (Nat × Nat)} {l:List Int} {n:Nat} (hl:l.length=32*n) (hr:∀ x∈l,0<=x/\x<=255):∀ i,i<=n->∀ a b,IsH (HAND ss l i a b)
 | 0,_,_,_=>z4n
 | i+1,h,a,b=>z3w (z2D hl hr i (by omega)) (z1E hl hr (by omega)) _ _ a b
theorem z7v {d:Int} {I:Nat} {M:Nat->Nat->List Int} (h:∀ a b,IsH (M a b)):∀ t a b,IsH (JN d I M t a b)
 | 0,a,b=>h a b
 | t+1,a,b=>z3w (z7v h t) (z1r _ _ _) _ _ a b
theorem zdi (d:Int) (leaf:List Int) (hleaf:IsH leaf) (S I:Nat) (hIS:I<S) (hS:S<=4611686018427387904) (a:Option Addr) (n c:Nat) (hn:n=(PSP I S).length) (l:List Int) (w:World) (hF:Flat w a n l) (hT:Tabled w) (hX:HX.Tabled w) (h0:2<w.heap.size):
  Calls Tryz.prog 39 #[.int .i64 d,.agg (z01 leaf).toArray,.agg #[.int .u64 (S:Int),.int .u64 (I:Int),.slice a n c]] w fun e w'=>∃ a c,e=.returned (.tuple #[.slice a (PC S) c,.int .i64 0])/\w'.ownsRow w.heap.size 24 32 (.slice a (PC S) c) (PC S) (z01 (CAT (CLM d leaf S I l) (SPAN 0 S)))/\Below w.heap.size w w':=by
 have l32:=hleaf.1;have HA:Aside (IsH leaf/\I<S/\S<=4611686018427387904/\n=(PSP I S).length/\Flat w a n l/\Tabled w/\HX.Tabled w/\2<w.heap.size):=⟨hleaf,hIS,hS,hn,hF,hT,hX,h0⟩
 clear hleaf hIS hS hn hF hT hX h0;go_enter Tryz.func39,Tryz.ntmps39;go_upto_region 1 with fail
 obtain ⟨b4,hb4⟩:∃ b4,b4=w.heap.size:=⟨_,rfl⟩
 have R0:Aside (Below w.heap.size w ((w.alloc (.cells (z01 leaf).toArray 24)).alloc (.cells #[.int .u64 (S:Int),.int .u64 (I:Int),.slice a n c] 40))/\Has ((w.alloc (.cells (z01 leaf).toArray 24)).alloc (.cells #[.int .u64 (S:Int),.int .u64 (I:Int),.slice a n c] 40)) b4 (z01 leaf).toArray 24/\Has ((w.alloc (.cells (z01 leaf).toArray 24)).alloc (.cells #[.int .u64 (S:Int),.int .u64 (I:Int),.slice a n c] 40)) (b4+1) #[.int .u64 (S:Int),.int .u64 (I:Int),.slice a n c] 40):=by
  rw [hb4];exact ⟨((Below.refl _ _).alloc (Nat.le_refl _) _).alloc (by simp) _,(Has.new _ _ _).alloc _,Has.at _ _ _ (by simp)⟩
 rw [<-hb4];generalize (w.alloc (.cells (z01 leaf).toArray 24)).alloc (.cells #[.int .u64 (S:Int),.int .u64 (I:Int),.slice a n c] 40)=W0 at *
 have HT:Aside (∀ W,Below w.heap.size w W->Tabled W/\HX.Tabled W/\0<W.heap.size/\Flat W a n l/\2<W.heap.size):=fun W h=>by
  obtain ⟨a1,a2,a3,a4,a5,a6,a7,a8⟩:=HA.out;have hs:=h.size;exact ⟨a6.below (by omega) h,a7.below h,by omega,a5.below h,by omega⟩
 have HB:Aside (b4=w.heap.size):=hb4;clear hb4
 have hPL:PLA I S=(0,PLCS (PSP I S)):=by
  obtain ⟨a1,a2,a3,a4,a5,a6,a7,a8⟩:=HA.out;unfold PLA;rw [if_neg (by omega),if_neg (by omega)]
 have y0:W0.cell? ⟨b4+1,0,none⟩=some (.int .u64 (S:Int)):=R0.out.2.2.cell 0;have y1:W0.cell? ⟨b4+1,1,none⟩=some (.int .u64 (I:Int)):=R0.out.2.2.cell 1;go_wp2_with fail
 have cP:=z7h I S W0 (HT.out _ R0.out.1).1 (HT.out _ R0.out.1).2.2.1;rw [hPL] at cP;refine cP.mono ?_;clear cP y0 y1 hPL;rintro e w1 ⟨v,rfl,hrow,hb⟩;dsimp only at *
 have hnl:(PLCS (PSP I S)).length=n:=by have:=HA.out.2.2.2.1;rw [z0u,this]
 rw [hnl] at hrow;obtain ⟨av,cv,rfl, -⟩:=z0P hrow;have R1:Aside (Below w.heap.size w w1/\Has w1 b4 (z01 leaf).toArray 24/\Has w1 (b4+1) #[.int .u64 (S:Int),.int .u64 (I:Int),.slice a n c] 40/\w1.ownsRow W0.heap.size 22 1 (.slice av n cv) n (z04 (PLCS (PSP I S)))):=⟨R0.out.1.trans (hb.mono R0.out.1.size),R0.out.2.1.keep hb,R0.out.2.2.keep hb,hrow⟩
 clear hrow hb R0 hnl;have y2:w1.cell? ⟨b4+1,2,none⟩=some (.slice a n c):=R1.out.2.2.1.cell 2;go_wp2_with fail
 have hfew:n<=126:=by obtain ⟨a1,a2,a3,a4,_⟩:=HA.out;have:=z5Y a2 a3;omega
 have hnd:∀ s∈PSP I S,Node s.1 s.2:=by
  obtain ⟨a1,a2,a3,a4,_⟩:=HA.out;exact fun s hs=>((z4D a2 a3).1 s hs).1
 refine (z8U (PSP I S) hnd W0.heap.size n HA.out.2.2.2.1.symm (by omega) (.slice av n cv) a c l w1 R1.out.2.2.2 (HT.out _ R1.out.1).2.2.2.1).mono ?_;clear y2 hnd;rintro e w2 ⟨mb,rfl,hM,hmb,hb⟩;obtain ⟨M1,hM1⟩:∃ M1,M1=MPUT (HAND (PSP I S) l n) 0 I leaf:=⟨_,rfl⟩
 have hIsM:∀ p q,IsH (M1 p q):=by
  rw [hM1];have hF:=(HT.out _ R1.out.1).2.2.2.1;exact z3w (z2D hF.1 hF.2.2 n (Nat.le_refl _)) HA.out.1 0 I
 obtain ⟨w3,st1,st2,st3⟩:=hM.store (h:=0) (k:=I) (by omega) (by decide) (by have:=HA.out;omega) leaf;rw [<-hM1] at st2;have st1:(Instr.mapUpdate 110 (.map (some mb)) (.agg #[.int .u8 0,.int .u64 (I:Int)]) (.agg (z01 leaf).toArray)).run Tryz.prog w2=.ok () w3:=st1;have R2:Aside (Below w.heap.size w w2/\Has w2 b4 (z01 leaf).toArray 24/\Has w2 (b4+1) #[.int .u64 (S:Int),.int .u64 (I:Int),.slice a n c] 40/\b4+1<mb):=⟨R1.out.1.trans (hb.mono R1.out.1.size),R1.out.2.1.keep hb,R1.out.2.2.1.keep hb,by have:=R1.out.2.2.1.lt;omega⟩
 have R3:Aside (Below w.heap.size w w3/\Has w3 (b4+1) #[.int .u64 (S:Int),.int .u64 (I:Int),.slice a n c] 40/\SMAP w3 mb (n+1) M1/\(∀ p q,IsH (M1 p q))/\b4+1<mb/\M1=MPUT (HAND (PSP I S) l n) 0 I leaf):=⟨R2.out.1.grown st3 R2.out.1.size (fun k e=>by cases e;have:=R2.out.2.2.2;have:=HB.out;omega),R2.out.2.2.1.grown st3 (by have:=R2.out.2.2.2;simp;omega),st2,hIsM,R2.out.2.2.2,hM1⟩
 have y1:w2.cell? ⟨b4+1,1,none⟩=some (.int .u64 (I:Int)):=R2.out.2.2.1.cell 1;have hH4:=R2.out.2.1;have z0:w3.cell? ⟨b4+1,0,none⟩=some (.int .u64 (S:Int)):=R3.out.2.1.cell 0;have z1:w3.cell? ⟨b4+1,1,none⟩=some (.int .u64 (I:Int)):=R3.out.2.1.cell 1;clear hM hmb hb R1 hM1 hIsM st2 st3 R2;go_wp2_with (refine wpList_load_row rfl 24 (.tmp 4) rfl b4 rfl 24 (z01 leaf).toArray (0,0) _ hH4 Tryz.underlying24 rfl (z02 l32) ?_)
 refine (z87 I S HA.out.2.1 HA.out.2.2.1 w3).mono ?_;clear st1 y1 hH4 z0 z1;rintro e w4 ⟨gp,cp,rfl,hrow,hg,hb⟩;have hrise:RISE I S<=62:=(z0L HA.out.2.1 HA.out.2.2.1).2.1;obtain ⟨T,hTT⟩:∃ T,RISE I S=T:=⟨_,rfl⟩
 rw [hTT] at hrise ⊢;have R4:Aside (Below w.heap.size w w4/\Has w4 (b4+1) #[.int .u64 (S:Int),.int .u64 (I:Int),.slice a n c] 40/\SMAP w4 mb (n+1+0) (JN d I M1 0)):=⟨R3.out.1.trans (hb.mono R3.out.1.size),R3.out.2.1.keep hb,R3.out.2.2.1.below hb⟩
 have KK:Aside ((∀ p q,IsH (M1 p q))/\b4+1<mb/\M1=MPUT (HAND (PSP I S) l n) 0 I leaf/\RISE I S=T/\T<=62/\n<=126/\2<mb):=⟨R3.out.2.2.2.1,R3.out.2.2.2.2.1,R3.out.2.2.2.2.2,hTT,hrise,hfew,by have h1:=HA.out;have h2:=HB.out;have h3:=R3.out.2.2.2.2.1;omega⟩
 clear hrow hg hb R3 hfew hTT hrise;go_wp2_with fail
 go_loopg [51] T (fun q s51 wx=>∃ t:Nat,s51=.int .i64 (t:Int)/\Aside (t+q=T/\Below w.heap.size w wx/\Has wx (b4+1) #[.int .u64 (S:Int),.int .u64 (I:Int),.slice a n c] 40/\SMAP wx mb (n+1+t) (JN d I M1 t)))
 case atStart=>exact ⟨0,rfl,by omega,R4.out⟩
 case round=>
  obtain ⟨t,rfl,A⟩:=hrel;clear R4;cases gk with
  | zero=>
    obtain rfl:t=T:=by have:=A.out.1;omega
    have hlt:¬ (t:Int)<(t:Int):=by omega
    have z0:wr.cell? ⟨b4+1,0,none⟩=some (.int .u64 (S:Int)):=A.out.2.2.1.cell 0;go_wp2_with fail
    have hH:=HT.out _ A.out.2.1;have hIs:∀ p q,IsH (JN d I M1 t p q):=z7v KK.out.1 t;refine (z5s mb (n+1+t) S HA.out.2.2.1 (JN d I M1 t) wr A.out.2.2.2 (fun s _=>(hIs s.1 s.2).1) hH.1 hH.2.2.1).mono ?_;rintro e w5 ⟨a5,c5,rfl,hrow,hb⟩
    have hC:JN d I M1 t=CLM d leaf S I l:=by
     unfold CLM;rw [KK.out.2.2.1,KK.out.2.2.2.1,HA.out.2.2.2.1]
    rw [hC] at hrow;have Z:Aside (w5.ownsRow w.heap.size 24 32 (.slice a5 (PC S) c5) (PC S) (z01 (CAT (CLM d leaf S I l) (SPAN 0 S)))/\Below w.heap.size w w5):=⟨z0q hrow A.out.2.1.size,A.out.2.1.trans (hb.mono A.out.2.1.size)⟩
    clear hrow hb hH hIs hC A KK HT HA;go_wp2;go_ret2;exact ⟨a5,c5,rfl,Z.out⟩
  | succ q=>
    have hlt:(t:Int)<(T:Int):=by have:=A.out.1;omega
    have z1:wr.cell? ⟨b4+1,1,none⟩=some (.int .u64 (I:Int)):=A.out.2.2.1.cell 1;obtain ⟨t1,ht1⟩:∃ t1,t+1=t1:=⟨_,rfl⟩
    have e1:wrap64 ((t:Int)+1)=(t1:Int):=by have:=KK.out;unfold wrap64;omega
    have e8:IntKind.u8.wrap (t1:Int)=(t1:Int):=by have:=KK.out;simp [IntKind.wrap,IntKind.bits,IntKind.signed];omega
    go_wp2_with fail
    have esh:(I:Int) / 2 ^ min t1 64=((I / 2 ^ t1:Nat):Int):=by
     rw [Nat.min_eq_left (by have:=KK.out;omega)];simp [Int.natCast_ediv]
    rw [esh]
    have hI61:2*(I / 2 ^ t1)+1<2 ^ 64:=by
     have h1:I / 2 ^ t1<=I:=Nat.div_le_self _ _;have:=HA.out;omega
    have hH:=HT.out _ A.out.2.1;have hIs:∀ p q,IsH (JN d I M1 t p q):=z7v KK.out.1 t;refine (zce mb (n+1+t) t1 t (I / 2 ^ t1) d (JN d I M1 t) ht1.symm (by have:=KK.out;omega) hI61 (by have:=KK.out;omega) wr A.out.2.2.2 (hIs _ _) (hIs _ _) hH.2.1 KK.out.2.2.2.2.2.2).mono ?_;clear hH hIs hI61 esh;rintro e w5 ⟨rfl,hM,hg⟩
    have Z:Aside (t+1+q=T/\Below w.heap.size w w5/\Has w5 (b4+1) #[.int .u64 (S:Int),.int .u64 (I:Int),.slice a n c] 40/\SMAP w5 mb (n+1+(t+1)) (JN d I M1 (t+1))):=by
     obtain ⟨a1,a2,a3,a4⟩:=A.out;have hmb:=KK.out.2.1;have hb4:=HB.out;refine ⟨by omega,a2.grown hg a2.size (fun k e=>by cases e;omega),a3.grown hg (by simp;omega),?_⟩;rw [<-ht1] at hM;exact hM
    have E1:Aside (wrap64 ((t:Int)+1)=((t+1:Nat):Int)):=by have:=KK.out;show wrap64 ((t:Int)+1)=((t+1:Nat):Int);unfold wrap64;omega
    clear hM hg A z1 e1 e8;have e1:=E1.out;go_wp2;go_roundg q
    case measure=>exact Nat.lt_succ_self _
    case rel=>exact ⟨t+1,by first | rfl | (rw [E1.out]),Z.out⟩
def ANSH (w:World) (A:Int × Nat × List Int) (e:Ending) (w':World):Prop:=∃ a c,e=.returned (.tuple #[.slice a A.2.1 c,.int .i64 A.1])/\w'.ownsRow w.heap.size 24 32 (.slice a A.2.1 c) A.2.1 (z01 A.2.2)/\Below w.heap.size w w'
theorem zar (d:Int) (leaf:List Int) (hleaf:IsH leaf) (S I:Nat) (a:Option Addr) (n c:Nat) (l:List Int) (w:World) (hF:Flat w a n l) (hT:Tabled w) (hX:HX.Tabled w) (h0:2<w.heap.size):
  Calls Tryz.prog 39 #[.int .i64 d,.agg (z01 leaf).toArray,.agg #[.int .u64 (S:Int),.int .u64 (I:Int),.slice a n c]] w (ANSH w (CLA d leaf S I n l)):=by
 unfold CLA;by_cases hE:(PLA I S).1=0
 ·rw [if_neg (by simpa using hE)]
  have hIS:I<S/\S<=4611686018427387904:=by
   unfold PLA at hE;split at hE
   ·simp at hE
   ·split at hE
    ·simp at hE
    ·omega
  have hPL:PLA I S=(0,PLCS (PSP I S)):=by
   unfold PLA;rw [if_neg (by omega),if_neg (by omega)]
  have hlen:(PLA I S).2.length=(PSP I S).length:=by rw [hPL];exact z0u _
  by_cases hn:n=(PLA I S).2.length
  ·rw [if_neg (by simpa using hn)]
   exact zdi d leaf hleaf S I hIS.1 hIS.2 a n c (by omega) l w hF hT hX h0
  ·rw [if_pos hn]
   have HB:Aside (Below w.heap.size w ((w.alloc (.cells (z01 leaf).toArray 24)).alloc (.cells #[.int .u64 (S:Int),.int .u64 (I:Int),.slice a n c] 40))):=((Below.refl _ _).alloc (Nat.le_refl _) _).alloc (by simp) _;have hH:Has ((w.alloc (.cells (z01 leaf).toArray 24)).alloc (.cells #[.int .u64 (S:Int),.int .u64 (I:Int),.slice a n c] 40)) (w.heap.size+1) #[.int .u64 (S:Int),.int .u64 (I:Int),.slice a n c] 40:=Has.at _ _ _ (by simp);have cP:=z7h I S _ (hT.below (by omega) HB.out) (Nat.lt_of_lt_of_le (by omega) HB.out.size);rw [hPL] at cP hn;obtain ⟨N,hN⟩:∃ N,(PLCS (PSP I S)).length=N:=⟨_,rfl⟩
   dsimp only at cP hn;rw [hN] at cP hn;have HN:Aside (n≠N):=hn;obtain ⟨b5,hb5⟩:∃ b5,b5=w.heap.size+1:=⟨_,rfl⟩
   rw [<-hb5] at hH;have HH:Aside (Has ((w.alloc (.cells (z01 leaf).toArray 24)).alloc (.cells #[.int .u64 (S:Int),.int .u64 (I:Int),.slice a n c] 40)) b5 #[.int .u64 (S:Int),.int .u64 (I:Int),.slice a n c] 40):=hH;clear hT hX h0 hE hIS hPL hlen hn hN hF hleaf hH;go_enter Tryz.func39,Tryz.ntmps39;go_wp2_with fail
   rw [<-hb5];clear hb5;refine cP.mono ?_;rintro e w1 ⟨v,rfl,hrow,hb⟩
   have hv:∃ a' c',v=.slice a' N c':=by
    obtain ⟨av,cv,e, -⟩:=z0P hrow;exact ⟨av,cv,e⟩
   have y2:w1.cell? ⟨b5,2,none⟩=some (.slice a n c):=(HH.out.keep hb).cell 2;have R:Aside (Below w.heap.size w w1):=HB.out.trans (hb.mono HB.out.size);clear hrow hb cP HB HH;obtain ⟨a',c',rfl⟩:=hv;go_wp2_with fail
   refine (z7u (.slice a' N c') N ⟨a',c',rfl⟩ a n c HN.out w1).mono ?_;rintro e w2 ⟨rfl,rfl⟩;clear y2;go_wp2;go_ret2;exact ⟨none,0,rfl,World.ownsRow_nil _ _ _ _,R.out⟩
 ·rw [if_pos hE]
  have HB:Aside (Below w.heap.size w ((w.alloc (.cells (z01 leaf).toArray 24)).alloc (.cells #[.int .u64 (S:Int),.int .u64 (I:Int),.slice a n c] 40))):=((Below.refl _ _).alloc (Nat.le_refl _) _).alloc (by simp) _;have cP:=z7h I S _ (hT.below (by omega) HB.out) (Nat.lt_of_lt_of_le (by omega) HB.out.size);obtain ⟨E,hEe⟩:∃ E,(PLA I S).1=E:=⟨_,rfl⟩
  rw [hEe] at cP hE ⊢;have hne:((E:Int) != 0)=true:=by simp [hE]
  clear hT hX h0 hE hEe hF hleaf;go_enter Tryz.func39,Tryz.ntmps39;go_wp2_with fail
  refine cP.mono ?_;rintro e w1 ⟨v,rfl,hrow,hb⟩;have R:Aside (Below w.heap.size w w1):=HB.out.trans (hb.mono HB.out.size);clear hrow hb cP HB;go_wp2;go_ret2;exact ⟨none,0,rfl,World.ownsRow_nil _ _ _ _,R.out⟩
def FA (d:Int) (l:List Int) (n:Nat):Nat->List Int
 | 0=>HSH l (n - 1)
 | k+1=>z1u d (HSH l (n - 2 - k)) (FA d l n k)
def FLD (d:Int) (l:List Int) (n:Nat):List Int:=if n=0 then ZND else FA d l n (n - 1)
theorem z62 {d:Int} {l:List Int} {n:Nat} (hl:l.length=32*n) (hr:∀ x∈l,0<=x/\x<=255) (hn:0<n):∀ k,IsH (FA d l n k)
 | 0=>z1E hl hr (by omega)
 | k+1=>z6K _ _ _
theorem zas {d:Int} {l:List Int} {n:Nat} (hl:l.length=32*n) (hr:∀ x∈l,0<=x/\x<=255):IsH (FLD d l n):=by
 unfold FLD;split
 ·exact z4n
 ·exact z62 hl hr (by omega) _
theorem z2q {fn:Func} {p:Tmp} {ty:TypeId} (h:fn.results=#[.cell p ty]) (tmps:Array Value) (w:World) (g:Nat) (t:TypeId) (cs:Array Value) (fr:Nat × Nat) (k:Nat) (el:TypeId)
  (hp:tmps.getD p undef=.pointer (some ⟨g,0,none⟩)) (hg:w.heap[g]?=some (.cells cs t fr))
  (hu:Tryz.prog.underlying ty=some (.array k el)) (hi:(Tryz.prog.info? ty).map (·.size)=some cs.size):
  (results fn tmps).run Tryz.prog w=.ok (.agg cs) w:=by
 have hp':tmps[p]?.getD undef=.pointer (some ⟨g,0,none⟩):=by simpa using hp
 simp [results,h,hp',asAddr,run_loadVar_row w g t ty cs fr (.array k el) hg hu rfl hi]
theorem zeZ (d:Int) (a:Option Addr) (n c:Nat) (hn:n<=1000) (l:List Int) (w:World) (hF:Flat w a n l) (hX:HX.Tabled w):
  Calls Tryz.prog 104 #[.int .i64 d,.slice a n c] w fun e w'=>e=.returned (.agg (z01 (FLD d l n)).toArray)/\Below w.heap.size w w':=by
 have R0:Aside (Below w.heap.size w (w.alloc (.cells ZARR 24))/\Has (w.alloc (.cells ZARR 24)) w.heap.size (z01 ZND).toArray 24):=⟨(Below.refl _ _).alloc (Nat.le_refl _) _,by rw [z28];exact Has.new _ _ _⟩
 by_cases h0:n=0
 ·subst h0
  have e:FLD d l 0=ZND:=rfl;rw [e];clear hF hX hn e;go_enter Tryz.func104,Tryz.ntmps104;go_upto_region 2 with fail
  rw [show (#[.int .u8 0,.int .u8 0,.int .u8 0,.int .u8 0,.int .u8 0,.int .u8 0,.int .u8 0,.int .u8 0,.int .u8 0,.int .u8 0,.int .u8 0,.int .u8 0,.int .u8 0,.int .u8 0,.int .u8 0,.int .u8 0,.int .u8 0,.int .u8 0,.int .u8 0,.int .u8 0,.int .u8 0,.int .u8 0,.int .u8 0,.int .u8 0,.int .u8 0,.int .u8 0,.int .u8 0,.int .u8 0,.int .u8 0,.int .u8 0,.int .u8 0,.int .u8 0]:Array Value)=ZARR from rfl];generalize w.alloc (.cells ZARR 24)=W0 at *
  go_wp2_with (rw [show (#[.int .u8 0,.int .u8 0,.int .u8 0,.int .u8 0,.int .u8 0,.int .u8 0,.int .u8 0,.int .u8 0,.int .u8 0,.int .u8 0,.int .u8 0,.int .u8 0,.int .u8 0,.int .u8 0,.int .u8 0,.int .u8 0,.int .u8 0,.int .u8 0,.int .u8 0,.int .u8 0,.int .u8 0,.int .u8 0,.int .u8 0,.int .u8 0,.int .u8 0,.int .u8 0,.int .u8 0,.int .u8 0,.int .u8 0,.int .u8 0,.int .u8 0,.int .u8 0]:Array Value)=(z01 ZND).toArray from rfl];refine wpList_store_row rfl 24 (.tmp 4) (.tmp 11) rfl _ _ rfl rfl 24 _ R0.out.2 (z02 rfl) rfl (z0k ZND) ?_)
  refine bodyPost_ret (v:=.agg (z01 ZND).toArray) (z2q rfl _ _ w.heap.size 24 _ (0,0) _ _ rfl (Has.row R0.out.2 _) Tryz.underlying24 (z02 rfl)) rfl ⟨rfl,z0e R0.out.1 (Nat.le_refl _) _⟩
 ·obtain ⟨m,hm⟩:∃ m,n=m+1:=⟨n - 1,by omega⟩
  obtain ⟨gn,o,rfl,hgn,hcn⟩:=hF.2.1 (by omega);have hz:¬ (n:Int)=0:=by omega
  have e1:wrap64 ((n:Int) - 1)=(m:Int):=by unfold wrap64;omega
  have hml:(m:Int)<(n:Int):=by omega
  have hm0:(0:Int)<=(m:Int):=by omega
  have e:FLD d l n=FA d l n m:=by unfold FLD;rw [if_neg h0,show n - 1=m by omega]
  rw [e];have HA:Aside (n=m+1/\n<=1000/\Flat w (some ⟨gn,o,none⟩) n l/\HX.Tabled w/\gn<w.heap.size/\∀ k,IsH (FA d l n k)):=⟨hm,hn,hF,hX,hgn,z62 hF.1 hF.2.2 (by omega)⟩
  clear hm hn hF hX hgn hcn h0 e;go_enter Tryz.func104,Tryz.ntmps104;go_upto_region 3 with fail
  rw [show (#[.int .u8 0,.int .u8 0,.int .u8 0,.int .u8 0,.int .u8 0,.int .u8 0,.int .u8 0,.int .u8 0,.int .u8 0,.int .u8 0,.int .u8 0,.int .u8 0,.int .u8 0,.int .u8 0,.int .u8 0,.int .u8 0,.int .u8 0,.int .u8 0,.int .u8 0,.int .u8 0,.int .u8 0,.int .u8 0,.int .u8 0,.int .u8 0,.int .u8 0,.int .u8 0,.int .u8 0,.int .u8 0,.int .u8 0,.int .u8 0,.int .u8 0,.int .u8 0]:Array Value)=ZARR from rfl];generalize w.alloc (.cells ZARR 24)=W0 at *
  have hat:W0.rangeAt gn (o+m*32) (z01 (FA d l n 0)):=by
   have h1:=(HA.out.2.2.1.below R0.out.1).at (show m<n by have:=HA.out.1;omega)
   have h2:FA d l n 0=HSH l m:=by have:=HA.out.1;rw [FA,show n - 1=m by omega]
   rw [h2];exact h1
  have h32:=(HA.out.2.2.2.2.2 0).1;generalize hA0:FA d l n 0=A0 at *
  go_wp2_with (first
   | (refine wpList_load_mid rfl 24 (.tmp 17) rfl gn (o+m*32) rfl (z01 A0) _ hat Tryz.underlying24 rfl (z09 h32) ?_)
   | (refine wpList_store_row rfl 24 (.tmp 6) (.tmp 18) rfl _ _ rfl rfl 24 _ (Has.new W0 _ _) (z02 h32) (by simp [z01,h32]) (z0k A0) ?_;rw [World.setRow_alloc_new]))
  have R1:Aside (Below w.heap.size w (W0.alloc (.cells (z01 A0).toArray 24))/\Has (W0.alloc (.cells (z01 A0).toArray 24)) w.heap.size (z01 ZND).toArray 24/\Has (W0.alloc (.cells (z01 A0).toArray 24)) W0.heap.size (z01 (FA d l n 0)).toArray 24/\w.heap.size<W0.heap.size):=⟨R0.out.1.alloc R0.out.1.size _,R0.out.2.alloc _,by rw [hA0];exact Has.new _ _ _,R0.out.2.lt⟩
  clear hat h32 hA0 R0;generalize W0.alloc (.cells (z01 A0).toArray 24)=W1 at *
  generalize W0.heap.size=b6 at *
  clear W0;have K:Aside (w.heap.size<b6):=R1.out.2.2.2;have E0:Aside (wrap64 ((m:Int) - 1)=(m:Int) - 1):=by have:=HA.out.1;have:=HA.out.2.1;show wrap64 ((m:Int) - 1)=(m:Int) - 1;unfold wrap64;omega
  go_loopg [7] m (fun q s7 wx=>∃ x:Int,s7=.int .i64 x/\Aside (q<=m/\x=(q:Int) - 1/\Below w.heap.size w wx/\Has wx w.heap.size (z01 ZND).toArray 24/\Has wx b6 (z01 (FA d l n (m - q))).toArray 24))
  case atStart=>exact ⟨_,rfl,Nat.le_refl _,E0.out,R1.out.1,R1.out.2.1,by rw [Nat.sub_self];exact R1.out.2.2.1⟩
  case round=>
   obtain ⟨x,rfl,A⟩:=hrel;clear R1 E0;cases gk with
   | zero=>
     obtain rfl:x = -1:=by have:=A.out.2.1;omega
     have y32:=(HA.out.2.2.2.2.2 m).1;have hH4:=A.out.2.2.2.1;have hH6:Has wr b6 (z01 (FA d l n m)).toArray 24:=A.out.2.2.2.2;have hb:=A.out.2.2.1;clear A HA;generalize hY0:FA d l n m=Y at *
     go_wp2_with (first
      | (refine wpList_load_row rfl 24 (.tmp 6) rfl b6 rfl 24 (z01 Y).toArray (0,0) _ hH6 Tryz.underlying24 rfl (z02 y32) ?_)
      | (refine wpList_store_row rfl 24 (.tmp 4) (.tmp 32) rfl _ _ rfl rfl 24 _ hH4 (z02 y32) (by simp [z01,y32];rfl) (z0k Y) ?_))
     refine bodyPost_ret (v:=.agg (z01 Y).toArray) (z2q rfl _ _ w.heap.size 24 _ (0,0) _ _ rfl (Has.row hH4 _) Tryz.underlying24 (z02 y32)) rfl ⟨by rw [hY0],z0e hb (Nat.le_refl _) _⟩
   | succ q=>
     obtain rfl:x=(q:Int):=by have:=A.out.2.1;omega
     have hq0:(0:Int)<=(q:Int):=by omega
     have hb:=A.out.2.2.1;obtain ⟨h1,h2,h3,h4,h5,h6⟩:=HA.out;have hqm:q+1<=m:=A.out.1
     have eY:FA d l n (m - q)=z1u d (HSH l q) (FA d l n (m - (q+1))):=by
      rw [show m - q=(m - (q+1))+1 by omega,FA,show n - 2 - (m - (q+1))=q by omega]
     have hL:IsH (HSH l q):=z1E h3.1 h3.2.2 (by omega);have hR:=h6 (m - (q+1));have hY:=h6 (m - q);have hb1:(q:Int)<(n:Int):=by omega
     have cF:=zgF d (HSH l q) (FA d l n (m - (q+1))) hL hR wr.drew (h4.below hb.drew);have hLr:=((h3.below hb).at (show q<n by omega))
     have hE1:Aside (wrap64 ((q:Int) - 1)=(q:Int) - 1):=by show wrap64 ((q:Int) - 1)=(q:Int) - 1;unfold wrap64;omega
     rw [<-eY] at cF;clear h1 h2 h3 h4 h5 h6 eY hb HA;generalize FA d l n (m - (q+1))=R at *
     generalize HSH l q=L at *
     have hH6:=A.out.2.2.2.2;go_upto_region 8 with fail
     refine z9v _ _ _ _ _ _ _ _ _ _ _ _ _ _ _ _ _ _ _ _ _ _ _ _ _ _ _ _ _ wr b6 gn o n c q d L R (FA d l n (m - q)) hL.1 hR.1 hY.1 hb1 hLr (z0D hH6) (fun W=>Below w.heap.size w W/\Has W w.heap.size (z01 ZND).toArray 24) (cF.mono ?_) (fun _ _ _ _ _ h=>h) ?_
     ·rintro e w' ⟨rfl,hb⟩
      have hb':Below wr.heap.size wr w':=(Below.refl _ wr).drew.trans hb;exact ⟨_,rfl,rfl,hH6.keep hb',A.out.2.2.1.trans (hb'.mono A.out.2.2.1.size),A.out.2.2.2.1.keep hb'⟩
     ·rintro X w' ⟨rfl,g1,g2,g3⟩
      dsimp only;have Z:Aside (q<=m/\(q:Int) - 1=(q:Int) - 1/\Below w.heap.size w (w'.setRow b6 (z01 (FA d l n (m - q))).toArray)/\Has (w'.setRow b6 (z01 (FA d l n (m - q))).toArray) w.heap.size (z01 ZND).toArray 24/\Has (w'.setRow b6 (z01 (FA d l n (m - q))).toArray) b6 (z01 (FA d l n (m - q))).toArray 24):=⟨by omega,rfl,z0e g2 (by have:=K.out;omega) _,g3.row_other (by have:=K.out;omega) _,g1.row _⟩
      clear cF hLr hL hR hY hb1 hq0 hqm A g1 g2 g3 hH6;have e1:=hE1.out;generalize w'.setRow b6 (z01 (FA d l n (m - q))).toArray=w3 at *
      go_wp2;go_roundg q
      case measure=>exact Nat.lt_succ_self _
      case rel=>exact ⟨_,rfl,Z.out.1,rfl,Z.out.2.2⟩
end Go.Proofs.YtdggkbpabjgdfaaGreatDoor
namespace Go.Proofs.YtdggkbpabjgdfaaGreatDoor
set_option maxRecDepth 100000
def WAYH (d:Int) (leaf:List Int) (I:Nat) (l:List Int):Nat->List Int
 | 0=>leaf
 | t+1=>if I / 2 ^ t % 2=0 then z0o d (WAYH d leaf I l t) (HSH l t) else z0o d (HSH l t) (WAYH d leaf I l t)
theorem z2Y {ss:List (Nat × Nat)} {l:List Int} (hp:ss.Pairwise Off) {t h k:Nat} (ht:ss[t]?=some (h,k)):∀ N,t<N->N<=ss.length->HAND ss l N h k=HSH l t
 | 0,h0,_=>by omega
 | N + 1,h1,h2=>by
   rw [HAND];by_cases e:t=N
   ·subst e
    rw [show ss.getD t (0,0)=(h,k) by rw [List.getD_eq_getElem?_getD,ht];rfl];exact z4m _ _ _ _
   ·have hlt:t<N:=by omega
    obtain ⟨s,hs⟩:∃ s,ss[N]?=some s:=⟨_,List.getElem?_eq_getElem (by omega)⟩
    have ho:=Pairwise.at_lt hp hlt ht hs;rw [show ss.getD N (0,0)=s by rw [List.getD_eq_getElem?_getD,hs];rfl];rw [z20]
    ·exact z2Y hp ht N hlt (by omega)
    ·rintro ⟨e1,e2⟩
     obtain ⟨a,b⟩:=s;dsimp only at e1 e2;subst e1 e2;have:=Nat.two_pow_pos h;unfold Off at ho;dsimp only at ho;rw [Nat.add_mul] at ho;omega
theorem z6L {d:Int} {I:Nat} {M:Nat->Nat->List Int} {h k:Nat} (hk:k≠I / 2 ^ h):∀ t,JN d I M t h k=M h k
 | 0=>rfl
 | t + 1=>by
   rw [JN,z20]
   ·exact z6L hk t
   ·rintro ⟨e1,e2⟩
    subst e1;exact hk e2
theorem zcf {i n t:Nat} (ht:t<RISE i n):(PSP i n)[t]?=some (t,SIB (i / 2 ^ t)):=by
 unfold PSP;rw [List.getElem?_append_left (by rw [z27];exact ht)];simp [WAYS,ht]
theorem zgH {i n j:Nat} (hj:j≠KTH i n):(PSP i n)[RISE i n+(if j<KTH i n then j else j - 1)]?=(SPAN 0 n)[j]?:=by
 unfold PSP;rw [List.getElem?_append_right (by rw [z27];omega),z27,Nat.add_sub_cancel_left,List.getElem?_eraseIdx];by_cases h:j<KTH i n
 ·rw [if_pos h,if_pos h]
 ·rw [if_neg h,if_neg (by omega),show j - 1+1=j by omega]
theorem z4T {q:Nat}:(q % 2=0->SIB q=2*(q / 2)+1/\2*(q / 2)=q)/\(q % 2=1->SIB q=2*(q / 2)/\2*(q / 2)+1=q):=by
 unfold SIB;refine ⟨fun h=>?_,fun h=>?_⟩ <;> (try split) <;> omega
theorem zf0 {d:Int} {leaf:List Int} {S I:Nat} (hI:I<S) (hS:S<=4611686018427387904) (l:List Int):∀ t,t<=RISE I S->JN d I (MPUT (HAND (PSP I S) l (PSP I S).length) 0 I leaf) t t (I / 2 ^ t)=WAYH d leaf I l t
 | 0,_=>by
   rw [JN,Nat.pow_zero,Nat.div_one];exact z4m _ _ _ _
 | t + 1,h=>by
   have ih:=zf0 hI hS (d:=d) (leaf:=leaf) l t (by omega);obtain ⟨p1,p2,_⟩:=z4D hI hS;have hw:=zcf (i:=I) (n:=S) (t:=t) (by omega);have hlt:t<(PSP I S).length:=(List.getElem?_eq_some_iff.1 hw).1;have hd:I / 2 ^ (t+1)=I / 2 ^ t / 2:=by rw [Nat.pow_succ,Nat.div_div_eq_div_mul]
   have hsib:JN d I (MPUT (HAND (PSP I S) l (PSP I S).length) 0 I leaf) t t (SIB (I / 2 ^ t))=HSH l t:=by
    have hne:SIB (I / 2 ^ t)≠I / 2 ^ t:=by have:=z4T (q:=I / 2 ^ t);omega
    rw [z6L hne,z20,z2Y p2 hw _ hlt (Nat.le_refl _)];rintro ⟨e1,e2⟩;subst e1;rw [Nat.pow_zero,Nat.div_one] at hne e2;exact hne e2
   rw [JN,z4m,WAYH,hd];by_cases hq:I / 2 ^ t % 2=0
   ·obtain ⟨e1,e2⟩:=z4T.1 hq
    rw [if_pos hq,<-e1,hsib,e2,ih]
   ·obtain ⟨e1,e2⟩:=z4T.2 (by omega:I / 2 ^ t % 2=1)
    rw [if_neg hq,e2,<-e1,hsib,ih]
def PEK (d:Int) (leaf:List Int) (S I:Nat) (l:List Int) (j:Nat):List Int:=if j=KTH I S then WAYH d leaf I l (RISE I S) else HSH l (RISE I S+(if j<KTH I S then j else j - 1))
theorem zat {d:Int} {leaf:List Int} {S I:Nat} (hI:I<S) (hS:S<=4611686018427387904) (l:List Int) {j h k:Nat} (hj:(SPAN 0 S)[j]?=some (h,k)):CLM d leaf S I l h k=PEK d leaf S I l j:=by
 unfold CLM PEK;by_cases e:j=KTH I S
 ·subst e
  rw [if_pos rfl];have h1:=(z3D hI hS).1;rw [hj] at h1;simp only [Option.some.injEq,Prod.mk.injEq] at h1;rw [h1.1,h1.2];exact zf0 hI hS l _ (Nat.le_refl _)
 ·rw [if_neg e]
  have h1:=zgH (i:=I) (n:=S) e;rw [hj] at h1;obtain ⟨p1,p2,_⟩:=z4D hI hS;have h3:=(p1 _ (List.mem_of_getElem? h1)).2.2;have hlt:=(List.getElem?_eq_some_iff.1 h1).1
  have hne:k≠I / 2 ^ h:=by
   rintro rfl;apply h3;dsimp only;exact ⟨Nat.div_mul_le_self I _,by have:=Nat.lt_div_mul_add (a:=I) (Nat.two_pow_pos h);rw [Nat.add_mul];omega⟩
  rw [z6L hne,z20,z2Y p2 h1 _ hlt (Nat.le_refl _)];rintro ⟨e1,e2⟩;subst e1;rw [Nat.pow_zero,Nat.div_one] at hne;exact hne e2
def z0t (l r:List Int):List Nat:=1 :: (NATS l ++ NATS r)
def z1i (l r:List Int):List Nat:=2 :: (NATS l ++ NATS r)
def z1F (n:Nat) (r:List Int):List Nat:=3 :: (HX.BE8 n ++ NATS r)
def HSHT (d:Int) (t:List Nat):List Int:=LST (HX.z0b d t)
theorem z4o (d:Int) (t:List Nat):IsH (HSHT d t):=z7s fun i=>HX.z2X d _ _ i
def INJ (d:Int) (T:List (List Nat)):Prop:=∀ s∈T,∀ t∈T,HSHT d s=HSHT d t->s=t
theorem z6l (h:List Int):(NATS h).length=32:=by simp [NATS]
theorem z6M {h k:List Int} (hh:IsH h) (hk:IsH k) (e:NATS h=NATS k):h=k:=by
 apply List.ext_getElem (by rw [hh.1,hk.1]);intro i h1 h2;have e2:(NATS h)[i]?=(NATS k)[i]?:=by rw [e]
 have hi:i<32:=by rw [<-hh.1];exact h1
 simp only [NATS,List.getElem?_map,List.getElem?_range hi,Option.map_some,Option.some.injEq,FNC] at e2;rw [List.getD_eq_getElem?_getD,List.getD_eq_getElem?_getD,List.getElem?_eq_getElem h1,List.getElem?_eq_getElem h2,Option.getD_some,Option.getD_some] at e2;have a:=hh.2 _ (List.getElem_mem h1);have b:=hk.2 _ (List.getElem_mem h2);omega
theorem z8V {l r l' r':List Int} (hl:IsH l) (hr:IsH r) (hl':IsH l') (hr':IsH r') (e:NATS l ++ NATS r=NATS l' ++ NATS r'):l=l'/\r=r':=by
 obtain ⟨a,b⟩:=List.append_inj e (by rw [z6l,z6l]);exact ⟨z6M hl hl' a,z6M hr hr' b⟩
theorem z4U {d:Int} {T:List (List Nat)} (hT:INJ d T) {l r l' r':List Int} (hl:IsH l) (hr:IsH r) (hl':IsH l') (hr':IsH r') (h1:z0t l r∈T) (h2:z0t l' r'∈T) (e:z0o d l r=z0o d l' r'):l=l'/\r=r':=by
 have:=hT _ h1 _ h2 e;unfold z0t at this;exact z8V hl hr hl' hr' (List.cons.inj this).2
theorem zgI {d:Int} {T:List (List Nat)} (hT:INJ d T) {l r l' r':List Int} (hl:IsH l) (hr:IsH r) (hl':IsH l') (hr':IsH r') (h1:z1i l r∈T) (h2:z1i l' r'∈T) (e:z1u d l r=z1u d l' r'):l=l'/\r=r':=by
 have:=hT _ h1 _ h2 e;unfold z1i at this;exact z8V hl hr hl' hr' (List.cons.inj this).2
theorem zgJ {d:Int} {T:List (List Nat)} (hT:INJ d T) {n:Nat} {r r':List Int} (hr:IsH r) (hr':IsH r') (h1:z1F n r∈T) (h2:z1F n r'∈T) (e:z0z d n r=z0z d n r'):r=r':=by
 have:=hT _ h1 _ h2 e;unfold z1F at this;exact z6M hr hr' (List.append_cancel_left (List.cons.inj this).2)
def BAGS (d:Int) (n k:Nat) (l:List Int) (T:List (List Nat)):Prop:=(∀ q,q+1<k->z1i (HSH l (k - 2 - q)) (FA d l k q)∈T)/\z1F n (FLD d l k)∈T
theorem BAGS.mono {d:Int} {n k:Nat} {l:List Int} {T T':List (List Nat)} (h:BAGS d n k l T) (hs:∀ t∈T,t∈T'):BAGS d n k l T':=⟨fun q hq=>hs _ (h.1 q hq),hs _ h.2⟩
theorem zcg {d:Int} {n k:Nat} {l l':List Int} {T:List (List Nat)} (hT:INJ d T) (hl:l.length=32*k) (hr:∀ x∈l,0<=x/\x<=255) (hl':l'.length=32*k) (hr':∀ x∈l',0<=x/\x<=255) (h1:BAGS d n k l T) (h2:BAGS d n k l' T) (e:z0z d n (FLD d l k)=z0z d n (FLD d l' k)):l=l':=by
 have e1:=zgJ hT (zas hl hr) (zas hl' hr') h1.2 h2.2 e;by_cases hk:k=0
 ·subst hk
  rw [List.length_eq_zero_iff.1 hl,List.length_eq_zero_iff.1 hl']
 ·unfold FLD at e1
  rw [if_neg hk,if_neg hk] at e1
  have step:∀ q,q+1<k->FA d l k (q+1)=FA d l' k (q+1)->HSH l (k - 2 - q)=HSH l' (k - 2 - q)/\FA d l k q=FA d l' k q:=fun q hq e2=>
   zgI hT (z1E hl hr (by omega)) (z62 hl hr (by omega) q) (z1E hl' hr' (by omega)) (z62 hl' hr' (by omega) q) (h1.1 q hq) (h2.1 q hq) e2
  have down:∀ j,j<=k - 1->FA d l k (k - 1 - j)=FA d l' k (k - 1 - j):=by
   intro j;induction j with
   | zero=>intro _;exact e1
   | succ j ih=>
     intro hj;have:=ih (by omega);rw [show k - 1 - j=(k - 1 - (j+1))+1 by omega] at this;exact (step _ (by omega) this).2
  refine zhY hl hl' fun i hi=>?_;by_cases hi1:i=k - 1
  ·have:=down (k - 1) (Nat.le_refl _)
   rw [Nat.sub_self] at this;rw [hi1];exact this
  ·have:=down i (by omega)
   rw [show k - 1 - i=(k - 2 - i)+1 by omega] at this;have:=(step (k - 2 - i) (by omega) this).1;rw [show k - 2 - (k - 2 - i)=i by omega] at this;exact this
def WAYT (d:Int) (leaf:List Int) (I m:Nat) (l:List Int) (T:List (List Nat)):Prop:=∀ t,t<m->(if I / 2 ^ t % 2=0 then z0t (WAYH d leaf I l t) (HSH l t) else z0t (HSH l t) (WAYH d leaf I l t))∈T
theorem WAYT.mono {d:Int} {leaf:List Int} {I m:Nat} {l:List Int} {T T':List (List Nat)} (h:WAYT d leaf I m l T) (hs:∀ t∈T,t∈T'):WAYT d leaf I m l T':=fun t ht=>hs _ (h t ht)
theorem z4V {d:Int} {leaf:List Int} {I:Nat} {l:List Int} (hleaf:IsH leaf):∀ t,IsH (WAYH d leaf I l t)
 | 0=>hleaf
 | t+1=>by
   rw [WAYH];split
   ·exact z1r _ _ _
   ·exact z1r _ _ _
end Go.Proofs.YtdggkbpabjgdfaaGreatDoor
namespace Go.Proofs.YtdggkbpabjgdfaaGreatDoor
open Go.RowKit Go.Maps
set_option maxRecDepth 100000
theorem zch:(24:TypeId)<Tryz.prog.types.size:=of_decide_eq_true (by kernel_rfl)
theorem zgK:(match Tryz.prog.underlying 24 with | some (.array _ _) | some (.struct _)=>true | _=>false)=true:=by rw [Tryz.underlying24]
theorem lawH:Keyed Tryz.prog 24:=Keyed.of_law (deep_law_laid za3 (m:=2) (by omega) zch (by kernel_rfl) zgK)
def HKL (h:List Int):Lit:=.string (keyBytes ((List.range 32).map fun i=>[Lit.int .u8 (h.getD i 0)]).flatten)
theorem z8W {α β:Type} (f:α->Option β) (g:α->β):∀ l:List α,(∀ x∈l,f x=some (g x))->l.mapM f=some (l.map g)
 | [],_=>rfl
 | x :: l,h=>by
   rw [List.mapM_cons,h x (List.mem_cons_self ..),z8W f g l (fun y hy=>h y (List.mem_cons_of_mem _ hy))];rfl
theorem z4p {h:List Int} (hh:IsH h):keyOf Tryz.prog 24 (.agg (z01 h).toArray)=some (HKL h):=by
 have c3:Tryz.prog.cellsOf 24=32:=by kernel_rfl
 have c1:Tryz.prog.cellsOf 5=1:=by kernel_rfl
 have ht:Tryz.prog.keyType 24=true:=by kernel_rfl
 have hl:(z01 h).length=32:=by simp [z01,hh.1]
 have hf:(Value.agg (z01 h).toArray).formed Tryz.prog 24=true:=by simp [Value.formed,Tryz.underlying24,c3,hl]
 obtain ⟨m,hm⟩:∃ m,Tryz.prog.types.size=m+1:=⟨Tryz.prog.types.size - 1,(Nat.succ_pred_eq_of_pos (Nat.lt_of_le_of_lt (Nat.zero_le _) zch)).symm⟩
 unfold keyOf;simp only [Tryz.underlying24,ht,hf,hm];simp only [Bool.and_self,if_true,Program.keyLits,Tryz.underlying24,Value.cells,c1,c3,hl];rw [z8W _ (fun i=>[Lit.int .u8 (h.getD i 0)]) (List.range 32)]
 ·rfl
 ·intro i hi
  have hi:i<32:=List.mem_range.1 hi
  have e:((z01 h).drop (i*1)).take 1=[.int .u8 (h.getD i 0)]:=by
   rw [Nat.mul_one];apply List.ext_getElem?;intro j;rw [List.getElem?_take];cases j with
   | zero=>
     simp only [Nat.zero_lt_one,if_true,List.getElem?_drop,Nat.add_zero,List.getElem?_cons_zero];unfold z01;rw [List.getElem?_map,List.getD_eq_getElem?_getD,List.getElem?_eq_getElem (by rw [hh.1];exact hi)];rfl
   | succ j=>simp
  have hr:0<=h.getD i 0/\h.getD i 0<=255:=by
   rw [List.getD_eq_getElem?_getD,List.getElem?_eq_getElem (by rw [hh.1];exact hi)];exact hh.2 _ (List.getElem_mem _)
  have w0:(Lit.int .u8 (h.getD i 0)).wf=true:=WalkArith.wf_u8 (by omega);rw [e];simp only [Tryz.underlying5];rw [if_pos ⟨trivial,w0⟩]
theorem zf1 {h k:List Int} (e:z01 h=z01 k):h=k:=by
 unfold z01 at e;exact List.map_inj_right (f:=Value.int .u8) (fun x y hxy=>by simpa using hxy) |>.1 e
theorem zci {h k:List Int} (hh:IsH h) (hk:IsH k) (e:HKL h=HKL k):h=k:=by
 have h1:=z4p hh;have h2:=z4p hk;rw [<-e] at h2;have:=lawH.inj h1 h2;simp only [Value.agg.injEq] at this;exact zf1 (by simpa using this)
def OWNT (w:World) (base g c:Nat) (t:List Nat):Prop:=w.ownsRow base 5 1 (.slice (some ⟨g,0,none⟩) t.length c) t.length (HX.z01 (HX.INTS t))/\HX.Small8 t/\0<t.length/\t.length<=200
theorem OWNT.at {w w':World} {base g c:Nat} {t:List Nat} (h:OWNT w base g c t) (hg:w'.heap[g]?=w.heap[g]?):OWNT w' base g c t:=by
 refine ⟨⟨h.1.1,h.1.2.imp id ?_⟩,h.2⟩;rintro ⟨g2,c2,cur,e1,e2,e3,e4⟩;have:g2=g:=by cases e1;rfl
 subst this;exact ⟨g2,c2,cur,e1,e2,hg.trans e3,e4⟩
theorem OWNT.lt {w:World} {base g c:Nat} {t:List Nat} (h:OWNT w base g c t):base<=g/\g<w.heap.size:=h.1.lt g rfl
theorem OWNT.cap {w:World} {base g c:Nat} {t:List Nat} (h:OWNT w base g c t):t.length<=c:=by
 rcases h.1.2 with ⟨e,_⟩ | ⟨g2,cap,cur,e,_,_,h2,_⟩
 ·cases e
 ·cases e;exact h2
theorem OWNT.text {w:World} {base g c:Nat} {t:List Nat} (h:OWNT w base g c t):HX.Text w (some ⟨g,0,none⟩) t.length t:=
 ⟨rfl,fun _=>⟨g,0,rfl,h.lt.2,fun i hi=>by
  rw [Nat.zero_add,h.1.cellAt i (by omega)];simp [HX.z01,HX.INTS,List.getD_eq_getElem?_getD,hi]⟩,h.2.1⟩
structure STEPM (b g:Nat) (w w':World):Prop where
 os:w'.os=w.os
 tape:w'.tape=w.tape
 output:w'.output=w.output
 size:w.heap.size<=w'.heap.size
 block:∀ k,k<w.heap.size->k≠b->k≠g->w'.heap[k]?=w.heap[k]?
theorem STEPM.refl (b g:Nat) (w:World):STEPM b g w w:=⟨rfl,rfl,rfl,Nat.le_refl _,fun _ _ _ _=>rfl⟩
theorem STEPM.trans {b g:Nat} {w w' w'':World} (h:STEPM b g w w') (k:STEPM b g w' w''):STEPM b g w w'':=⟨k.os.trans h.os,k.tape.trans h.tape,k.output.trans h.output,Nat.le_trans h.size k.size,fun i h1 h2 h3=>(k.block i (Nat.lt_of_lt_of_le h1 h.size) h2 h3).trans (h.block i h1 h2 h3)⟩
theorem STEPM.of_below {b g:Nat} {w w':World} (h:Below w.heap.size w w'):STEPM b g w w':=⟨h.os,h.tape,h.output,h.size,fun k h1 _ _=>h.block k h1⟩
theorem STEPM.below {b g base:Nat} {w w':World} (h:STEPM b g w w') (h0:base<=w.heap.size) (h1:base<=b) (h2:base<=g):Below base w w':=⟨h.os,h.tape,h.output,h.size,fun k hk=>h.block k (by omega) (by omega) (by omega)⟩
theorem STEPM.grown {b g:Nat} {w w':World} (h:w.grownBy w' (some g)):STEPM b g w w':=⟨h.os,h.tape,h.output,h.size,fun k h1 _ h3=>h.block k h1 (fun e=>h3 (by simpa using e))⟩
theorem STEPM.setRow {b g:Nat} (w:World) (cs:Array Value):STEPM b g w (w.setRow b cs):=⟨rfl,rfl,rfl,by simp,fun k _ h2 _=>setRow_other w b k cs h2⟩
def FST (d:Int) (T:List (List Nat)) (h:List Int):Option (List Nat):=T.reverse.find? fun s=>decide (HSHT d s=h)
def CLS (d:Int):List (List Nat)->Option (List Nat × List Nat)
 | []=>none
 | t :: T=>match FST d T (HSHT d t) with
   | none=>CLS d T
   | some s=>if s=t then CLS d T else some (s,t)
theorem z4W (d:Int) (t:List Nat) (T:List (List Nat)) (h:List Int):FST d (t :: T) h=(FST d T h).or (if HSHT d t=h then some t else none):=by
 unfold FST;rw [List.reverse_cons,List.find?_append];congr 1
 by_cases e:HSHT d t=h <;> simp [e]
theorem z6N {d:Int} {T:List (List Nat)} {h:List Int} {s:List Nat} (e:FST d T h=some s):s∈T/\HSHT d s=h:=by
 unfold FST at e;exact ⟨List.mem_reverse.1 (List.mem_of_find?_eq_some e),by simpa using List.find?_some e⟩
theorem zgL {d:Int} {T:List (List Nat)} {h:List Int} (e:FST d T h=none):∀ s∈T,HSHT d s≠h:=fun s hs=>by
 unfold FST at e;simpa using List.find?_eq_none.1 e s (List.mem_reverse.2 hs)
theorem zau {d:Int}:∀ {T:List (List Nat)} {s t:List Nat},CLS d T=some (s,t)->s≠t/\HSHT d s=HSHT d t/\s∈T/\t∈T
 | [],s,t,e=>by simp [CLS] at e
 | x :: T,s,t,e=>by
   have rcc:CLS d T=some (s,t)->s≠t/\HSHT d s=HSHT d t/\s∈x :: T/\t∈x :: T:=fun e=>by
     obtain ⟨a,b,c1,c2⟩:=zau e;exact ⟨a,b,List.mem_cons_of_mem _ c1,List.mem_cons_of_mem _ c2⟩
   rw [CLS] at e;cases hf:FST d T (HSHT d x) with
   | none=>rw [hf] at e;exact rcc e
   | some y=>
     rw [hf] at e;dsimp only at e;by_cases hy:y=x
     ·rw [if_pos hy] at e;exact rcc e
     ·rw [if_neg hy] at e
      simp only [Option.some.injEq,Prod.mk.injEq] at e;obtain ⟨rfl,rfl⟩:=e;exact ⟨hy,(z6N hf).2,List.mem_cons_of_mem _ (z6N hf).1,List.mem_cons_self ..⟩
theorem INJ.new {d:Int} {T:List (List Nat)} {t:List Nat} (h:INJ d T) (hn:∀ s∈T,HSHT d s≠HSHT d t):INJ d (t :: T):=by
 intro a ha b hb e;rcases List.mem_cons.1 ha with ea | ha1
 ·rcases List.mem_cons.1 hb with eb | hb1
  ·rw [ea,eb]
  ·rw [ea] at e
   exact absurd e.symm (hn b hb1)
 ·rcases List.mem_cons.1 hb with eb | hb1
  ·rw [eb] at e
   exact absurd e (hn a ha1)
  ·exact h a ha1 b hb1 e
theorem INJ.again {d:Int} {T:List (List Nat)} {t:List Nat} (h:INJ d T) (ht:t∈T):INJ d (t :: T):=by
 have sub:∀ a∈t :: T,a∈T:=fun a ha=>by
  rcases List.mem_cons.1 ha with rfl | ha
  ·exact ht
  ·exact ha
 exact fun a ha b hb e=>h a (sub a ha) b (sub b hb) e
theorem z6O {d:Int}:∀ {T:List (List Nat)},CLS d T=none->INJ d T
 | [],_=>fun _ h=>by simp at h
 | x :: T,e=>by
   rw [CLS] at e;cases hf:FST d T (HSHT d x) with
   | none=>rw [hf] at e;exact (z6O e).new (zgL hf)
   | some y=>
     rw [hf] at e;dsimp only at e;by_cases hy:y=x
     ·rw [if_pos hy] at e;exact (z6O e).again (hy ▸ (z6N hf).1)
     ·rw [if_neg hy] at e;cases e
def TOLD (w:World) (base top:Nat) (ok:Nat->Prop) (b g:Nat) (A B:Value) (s t:List Nat):Prop:=∃ gA cA gB cB,A=.slice (some ⟨gA,0,none⟩) s.length cA/\B=.slice (some ⟨gB,0,none⟩) t.length cB/\OWNT w base gA cA s/\OWNT w base gB cB t/\gA≠gB/\(gA<top/\ok gA)/\(gB<top/\ok gB)/\gA≠b/\gA≠g/\gB≠b/\gB≠g
theorem TOLD.at {w w':World} {base top b g:Nat} {ok:Nat->Prop} {A B:Value} {s t:List Nat} (h:TOLD w base top ok b g A B s t) {top':Nat} (ht:top<=top') (hk:∀ k,k<top->k≠b->k≠g->w'.heap[k]?=w.heap[k]?):TOLD w' base top' ok b g A B s t:=by
 obtain ⟨gA,cA,gB,cB,e1,e2,o1,o2,n1,l1,l2,m1,m2,m3,m4⟩:=h;exact ⟨gA,cA,gB,cB,e1,e2,o1.at (hk _ l1.1 m1 m2),o2.at (hk _ l2.1 m3 m4),n1,⟨by omega,l1.2⟩,⟨by omega,l2.2⟩,m1,m2,m3,m4⟩
structure MET (w:World) (base top:Nat) (ok:Nat->Prop) (b g:Nat) (d:Int) (T:List (List Nat)):Prop where
 hb:base<=b/\b<top
 hg:base<=g/\g<top
 ne:b≠g
 htop:top<=w.heap.size
 blk:∃ a1 n1 c1 a2 n2 c2,Has w b #[.int .i64 d,.map (some g),.slice a1 n1 c1,.slice a2 n2 c2,.bool (CLS d T).isSome] 59/\∀ s t,CLS d T=some (s,t)->TOLD w base top ok b g (.slice a1 n1 c1) (.slice a2 n2 c2) s t
 map:∃ D:DataW Value,w.ownsMap Tryz.prog 24 RV g T.length D/\(∀ h,IsH h->FST d T h=none->Maps.has D (HKL h)=false)/\∀ h t,IsH h->FST d T h=some t->Maps.has D (HKL h)=true/\∃ gt c,D.atKey (HKL h) (.held (.slice none 0 0))=.held (.slice (some ⟨gt,0,none⟩) t.length c)/\OWNT w base gt c t/\(gt<top/\ok gt)/\gt≠b/\gt≠g
theorem OWNT.cells {w:World} {base g c:Nat} {t:List Nat} (h:OWNT w base g c t):∃ o:Obj,w.heap[g]?=some o/\o.isCells=true:=by
 rcases h.1.2 with ⟨e,_⟩ | ⟨g2,cap,cur,e,_,e3,_⟩
 ·cases e
 ·cases e;exact ⟨_,e3,rfl⟩
theorem MET.keepc {w w':World} {base top b g:Nat} {ok:Nat->Prop} {d:Int} {T:List (List Nat)} (h:MET w base top ok b g d T) (hk:∀ k,k<top->(k=b\/k=g\/ok k/\∃ o:Obj,w.heap[k]?=some o/\o.isCells=true)->w'.heap[k]?=w.heap[k]?) {top':Nat} (ht:top<=top') (hs:top'<=w'.heap.size):MET w' base top' ok b g d T:=by
 obtain ⟨a1,n1,c1,a2,n2,c2,h1,h2⟩:=h.blk;obtain ⟨D,m1,m2,m3⟩:=h.map;refine ⟨⟨h.hb.1,by have:=h.hb.2;omega⟩,⟨h.hg.1,by have:=h.hg.2;omega⟩,h.ne,hs,⟨a1,n1,c1,a2,n2,c2,(hk b h.hb.2 (.inl rfl)).trans h1,fun s t e=>?_⟩,D,?_,m2,fun x t hx e=>?_⟩
 ·obtain ⟨gA,cA,gB,cB,e1,e2,o1,o2,n1,l1,l2,m1,m2,m3,m4⟩:=h2 s t e
  exact ⟨gA,cA,gB,cB,e1,e2,o1.at (hk _ l1.1 (.inr (.inr ⟨l1.2,o1.cells⟩))),o2.at (hk _ l2.1 (.inr (.inr ⟨l2.2,o2.cells⟩))),n1,⟨by omega,l1.2⟩,⟨by omega,l2.2⟩,m1,m2,m3,m4⟩
 ·obtain ⟨es,clock,a1,r⟩:=m1
  exact ⟨es,clock,(hk g h.hg.2 (.inr (.inl rfl))).trans a1,r⟩
 ·obtain ⟨a0,gt,c,a3,a4,a5,a6,a7⟩:=m3 x t hx e
  exact ⟨a0,gt,c,a3,a4.at (hk _ a5.1 (.inr (.inr ⟨a5.2,a4.cells⟩))),⟨by omega,a5.2⟩,a6,a7⟩
theorem MET.sub {w:World} {base top b g:Nat} {ok ok':Nat->Prop} {d:Int} {T:List (List Nat)} (h:MET w base top ok b g d T) (hk:∀ k,k<top->ok k->ok' k):MET w base top ok' b g d T:=by
 obtain ⟨a1,n1,c1,a2,n2,c2,h1,h2⟩:=h.blk;obtain ⟨D,m1,m2,m3⟩:=h.map;refine ⟨h.hb,h.hg,h.ne,h.htop,⟨a1,n1,c1,a2,n2,c2,h1,fun s t e=>?_⟩,D,m1,m2,fun x t hx e=>?_⟩
 ·obtain ⟨gA,cA,gB,cB,e1,e2,o1,o2,n1,l1,l2,r⟩:=h2 s t e
  exact ⟨gA,cA,gB,cB,e1,e2,o1,o2,n1,⟨l1.1,hk _ l1.1 l1.2⟩,⟨l2.1,hk _ l2.1 l2.2⟩,r⟩
 ·obtain ⟨a0,gt,c,a3,a4,a5,r⟩:=m3 x t hx e
  exact ⟨a0,gt,c,a3,a4,⟨a5.1,hk _ a5.1 a5.2⟩,r⟩
theorem MET.keep {w w':World} {base top b g:Nat} {ok:Nat->Prop} {d:Int} {T:List (List Nat)} (h:MET w base top ok b g d T) (hk:∀ k,k<top->w'.heap[k]?=w.heap[k]?) {top':Nat} (ht:top<=top') (hs:top'<=w'.heap.size):MET w' base top' ok b g d T:=h.keepc (fun k a _=>hk k a) ht hs
theorem MET.below {w w':World} {base top b g:Nat} {ok:Nat->Prop} {d:Int} {T:List (List Nat)} (h:MET w base top ok b g d T) (hb:Below w.heap.size w w'):MET w' base top ok b g d T:=h.keep (fun k hk=>hb.block k (Nat.lt_of_lt_of_le hk h.htop)) (Nat.le_refl _) (Nat.le_trans h.htop hb.size)
theorem zgM (w:World):(zeroValue 25).run Tryz.prog w=.ok (.slice none 0 0) w:=by kernel_rfl
theorem MET.look {w:World} {base top b g:Nat} {ok:Nat->Prop} {d:Int} {T:List (List Nat)} (h:MET w base top ok b g d T) {x:List Int} (hx:IsH x):
   (∃ gt c t,FST d T x=some t/\OWNT w base gt c t/\(gt<top/\ok gt)/\gt≠b/\gt≠g/\(Instr.lookup 57 (.map (some g)) (.agg (z01 x).toArray) true).run Tryz.prog w=.ok (.tuple #[.slice (some ⟨gt,0,none⟩) t.length c,.bool true]) w)\/
   (FST d T x=none/\∃ v,(Instr.lookup 57 (.map (some g)) (.agg (z01 x).toArray) true).run Tryz.prog w=.ok (.tuple #[v,.bool false]) w):=by
 obtain ⟨D,m1,m2,m3⟩:=h.map;obtain ⟨v,ps,r1,r2⟩:=m1.look_ok lawH Tryz.underlying57 (zgM w) (show RV (.slice none 0 0)=some (.held (.slice none 0 0),[]) from rfl) (z4p hx);cases e:FST d T x with
 | some t=>
   obtain ⟨a0,gt,c,a3,a4,a5,a6,a7⟩:=m3 x t hx e;refine .inl ⟨gt,c,t,rfl,a4,a5,a6,a7,?_⟩;rw [a3] at r2;simp only [RV,Option.some.injEq,Prod.mk.injEq,DataW.held.injEq] at r2;rw [r1,a0,r2.1]
 | none=>
   refine .inr ⟨rfl,v,?_⟩;rw [r1,m2 x hx e]
theorem MET.store {w:World} {base top b g:Nat} {ok:Nat->Prop} {d:Int} {T:List (List Nat)} (h:MET w base top ok b g d T) (hT:T.length<=100000) {gt c:Nat} {t:List Nat} (ht:OWNT w base gt c t) (htop:top<=gt) (hok:ok gt) (hn:FST d T (HSHT d t)=none) {top':Nat} (hgt':gt<top') (hs':top'<=w.heap.size):∃ w',(Instr.mapUpdate 57 (.map (some g)) (.agg (z01 (HSHT d t)).toArray) (.slice (some ⟨gt,0,none⟩) t.length c)).run Tryz.prog w=.ok () w'/\MET w' base top' ok b g d (t :: T)/\STEPM b g w w'/\∀ k,k<w.heap.size->k≠g->w'.heap[k]?=w.heap[k]?:=by
 obtain ⟨a1,n1,c1,a2,n2,c2,h1,h2⟩:=h.blk;obtain ⟨D,m1,m2,m3⟩:=h.map;obtain ⟨w',r1,r2,r3⟩:=m1.update lawH Tryz.underlying57 (by unfold maxLen;omega) (z4p (z4o d t)) (show RV (.slice (some ⟨gt,0,none⟩) t.length c)=some (.held (.slice (some ⟨gt,0,none⟩) t.length c),[]) from rfl);have hgt:=ht.lt;have hk:∀ k,k<w.heap.size->k≠g->w'.heap[k]?=w.heap[k]?:=fun k hk hne=>r3.block k hk (fun e=>hne (by simpa using e));have hsz:=r3.size;have htp:=h.htop;have b1:=h.hb;have g1:=h.hg;have hkey:WideAt.IsKeyLit (HKL (HSHT d t)):=lawH.key (z4p (z4o d t));have ec:CLS d (t :: T)=CLS d T:=by rw [CLS,hn]
 refine ⟨w',r1,⟨⟨b1.1,by omega⟩,⟨g1.1,by omega⟩,h.ne,by omega,⟨a1,n1,c1,a2,n2,c2,by rw [ec];exact (hk b (by omega) h.ne).trans h1,fun s x e=>(h2 s x (by rw [<-ec];exact e)).at (by omega) (fun k a1 _ a3=>hk k (by omega) a3)⟩,_,r2,fun x hx e=>?_,fun x s hx e=>?_⟩,STEPM.grown r3,hk⟩
 ·rw [z4W] at e
  simp only [Option.or_eq_none_iff] at e
  have e2:HKL x≠HKL (HSHT d t):=fun e2=>by
   have:=zci hx (z4o d t) e2;rw [if_pos this.symm] at e;cases e.2
  rw [Maps.has_put_other e2];exact m2 x hx e.1
 ·by_cases e2:HKL x=HKL (HSHT d t)
  ·have:=zci hx (z4o d t) e2
   subst this;rw [z4W,hn,if_pos rfl] at e;simp only [Option.none_or,Option.some.injEq] at e;subst e;exact ⟨Maps.has_put_same m1.isMap hkey _,gt,c,Maps.atKey_put_same m1.isMap hkey _ _,ht.at (hk _ (by omega) (by omega)),⟨by omega,hok⟩,by omega,by omega⟩
  ·rw [z4W,if_neg (fun e3=>e2 (by rw [e3])),Option.or_none] at e
   obtain ⟨a0,gs,cs,a3,a4,a5,a6,a7⟩:=m3 x s hx e;exact ⟨by rw [Maps.has_put_other e2];exact a0,gs,cs,by rw [Maps.atKey_put_other e2];exact a3,a4.at (hk _ (by omega) (by omega)),⟨by omega,a5.2⟩,a6,a7⟩
theorem z3Y {d:Int} {T:List (List Nat)} {s t:List Nat} (hs:FST d T (HSHT d t)=some s) (x:List Int):FST d (t :: T) x=FST d T x:=by
 rw [z4W];by_cases e:HSHT d t=x
 ·rw [<-e,hs];rfl
 ·rw [if_neg e,Option.or_none]
theorem MET.again {w:World} {base top b g:Nat} {ok:Nat->Prop} {d:Int} {T:List (List Nat)} (h:MET w base top ok b g d T) {t:List Nat} (ht:FST d T (HSHT d t)=some t) {top':Nat} (ht':top<=top') (hs':top'<=w.heap.size):MET w base top' ok b g d (t :: T):=by
 have h:=h.keep (w':=w) (fun _ _=>rfl) ht' hs';obtain ⟨a1,n1,c1,a2,n2,c2,h1,h2⟩:=h.blk;obtain ⟨D,m1,m2,m3⟩:=h.map;have ec:CLS d (t :: T)=CLS d T:=by rw [CLS,ht];exact if_pos rfl
 refine ⟨h.hb,h.hg,h.ne,h.htop,⟨a1,n1,c1,a2,n2,c2,by rw [ec];exact h1,fun s x e=>h2 s x (by rw [<-ec];exact e)⟩,D,m1.mono (by simp),fun x hx e=>?_,fun x s hx e=>?_⟩
 ·rw [z3Y ht] at e
  exact m2 x hx e
 ·rw [z3Y ht] at e
  exact m3 x s hx e
theorem MET.found {w:World} {base top b g:Nat} {ok:Nat->Prop} {d:Int} {T:List (List Nat)} (h:MET w base top ok b g d T) {gs cs gt ct:Nat} {s t:List Nat} (hs:OWNT w base gs cs s) (ht:OWNT w base gt ct t) (hst:s≠t) (he:FST d T (HSHT d t)=some s) (l1:gs<top/\ok gs) (n1:gs≠b) (n2:gs≠g) (l2:top<=gt) (hok:ok gt) {top':Nat} (hgt':gt<top') (hs':top'<=w.heap.size):MET (w.setRow b #[.int .i64 d,.map (some g),.slice (some ⟨gs,0,none⟩) s.length cs,.slice (some ⟨gt,0,none⟩) t.length ct,.bool true]) base top' ok b g d (t :: T):=by
 have htp:=h.htop;have b1:=h.hb;have g1:=h.hg;have hgt:=ht.lt;obtain ⟨_,_,_,_,_,_,h1, -⟩:=h.blk;obtain ⟨D,m1,m2,m3⟩:=h.map;have ec:CLS d (t :: T)=some (s,t):=by rw [CLS,he];exact if_neg hst
 have hk:∀ k,k≠b->(w.setRow b #[.int .i64 d,.map (some g),.slice (some ⟨gs,0,none⟩) s.length cs,.slice (some ⟨gt,0,none⟩) t.length ct,.bool true]).heap[k]?=w.heap[k]?:=fun k hne=>setRow_other w b k _ hne;refine ⟨⟨b1.1,by omega⟩,⟨g1.1,by omega⟩,h.ne,by simpa using hs',⟨_,_,_,_,_,_,by rw [ec];exact Has.row h1 _,fun s' t' e=>?_⟩,D,?_,fun x hx e=>?_,fun x y hx e=>?_⟩
 ·rw [ec] at e
  simp only [Option.some.injEq,Prod.mk.injEq] at e;obtain ⟨rfl,rfl⟩:=e;exact ⟨gs,cs,gt,ct,rfl,rfl,hs.at (hk _ n1),ht.at (hk _ (by omega)),by omega,⟨by omega,l1.2⟩,⟨by omega,hok⟩,n1,n2,by omega,by omega⟩
 ·obtain ⟨es,clock,a1,a2,a3,r⟩:=m1
  exact ⟨es,clock,(hk g h.ne.symm).trans a1,a2,by simp;omega,r⟩
 ·rw [z3Y he] at e
  exact m2 x hx e
 ·rw [z3Y he] at e
  obtain ⟨a0,gx,cx,a3,a4,a5,a6,a7⟩:=m3 x y hx e;exact ⟨a0,gx,cx,a3,a4.at (hk _ a6),⟨by omega,a5.2⟩,a6,a7⟩
end Go.Proofs.YtdggkbpabjgdfaaGreatDoor
