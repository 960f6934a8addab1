/- ClashTrees: part 12. -/
import Derived.Test.YtnimaaflmdoaaaaGreatDoorClashTreesP11
set_option maxHeartbeats 4000000
namespace Go.Proofs.YtnimaaflmdoaaaaGreatDoor
open Go.RowKit
set_option maxRecDepth 100000
def JN (d:Int) (I:Nat) (M:Nat->Nat->List Int):Nat->Nat->Nat->List Int
 | 0=>M
 | t+1=>MPUT (JN d I M t) (t+1) (I / 2 ^ (t+1)) (z0t d (JN d I M t t (2*(I / 2 ^ (t+1)))) (JN d I M t t (2*(I / 2 ^ (t+1))+1)))
def CLM (d:Int) (leaf:List Int) (S I:Nat) (l:List Int):Nat->Nat->List Int:=JN d I (MPUT (HAND (PSP I S) l (PSP I S).length) 0 I leaf) (RISE I S)
def CLA (d:Int) (leaf:List Int) (S I n:Nat) (l:List Int):Int × Nat × List Int:=if (PLA I S).1≠0 then ((PLA I S).1,0,[]) else if n≠(PLA I S).2.length then (70,0,[]) else (0,PC S,CAT (CLM d leaf S I l) (SPAN 0 S))
theorem z4Q:IsH ZND:=⟨rfl,fun x hx=>by
 have:x=0:=by simpa [ZND] using hx
 omega⟩
theorem z3T {M:Nat->Nat->List Int} (h:∀ a b,IsH (M a b)) {x:List Int} (hx:IsH x) (p q a b:Nat):IsH (MPUT M p q x a b):=by
 unfold MPUT;split
 ·exact hx
 ·exact h a b
theorem z26 {l:List Int} {n i:Nat} (hl:l.length=32*n) (hr:∀ x∈l,0<=x/\x<=255) (hi:i<n):IsH (HSH l i):=⟨z0Y hl hi,fun x hx=>hr x (zar hx)⟩
theorem z59 {ss:List (Nat × Nat)} {l:List Int} {n:Nat} (hl:l.length=32*n) (hr:∀ x∈l,0<=x/\x<=255):∀ i,i<=n->∀ a b,IsH (HAND ss l i a b)
 | 0,_,_,_=>z4Q
 | i+1,h,a,b=>z3T (z59 hl hr i (by omega)) (z26 hl hr (by omega)) _ _ a b
theorem z67 {d:Int} {I:Nat} {M:Nat->Nat->List Int} (h:∀ a b,IsH (M a b)):∀ t a b,IsH (JN d I M t a b)
 | 0,a,b=>h a b
 | t+1,a,b=>z3T (z67 h t) (z3i _ _ _) _ _ a b
theorem zbI (d:Int) (leaf:List Int) (hleaf:IsH leaf) (S I:Nat) (hIS:I<S) (hS:S<=4611686018427387904) (a:Option Addr) (n c:Nat) (hn:n=(PSP I S).length) (l:List Int) (w:World) (hF:Flat w a n l) (hT:Tabled w) (hX:HX.Tabled w) (h0:2<w.heap.size):
  Calls Tryz.prog 56 #[.int .i64 d,.agg (z00 leaf).toArray,.agg #[.int .u64 (S:Int),.int .u64 (I:Int),.slice a n c]] w fun e w'=>∃ a c,e=.returned (.tuple #[.slice a (PC S) c,.int .i64 0])/\w'.ownsRow w.heap.size 23 32 (.slice a (PC S) c) (PC S) (z00 (CAT (CLM d leaf S I l) (SPAN 0 S)))/\Below w.heap.size w w':=by
 have l32:=hleaf.1;have HA:Aside (IsH leaf/\I<S/\S<=4611686018427387904/\n=(PSP I S).length/\Flat w a n l/\Tabled w/\HX.Tabled w/\2<w.heap.size):=⟨hleaf,hIS,hS,hn,hF,hT,hX,h0⟩
 clear hleaf hIS hS hn hF hT hX h0;go_enter Tryz.func56,Tryz.ntmps56;go_upto_region 1 with fail
 obtain ⟨b4,hb4⟩:∃ b4,b4=w.heap.size:=⟨_,rfl⟩
 have R0:Aside (Below w.heap.size w ((w.alloc (.cells (z00 leaf).toArray 23)).alloc (.cells #[.int .u64 (S:Int),.int .u64 (I:Int),.slice a n c] 49))/\Has ((w.alloc (.cells (z00 leaf).toArray 23)).alloc (.cells #[.int .u64 (S:Int),.int .u64 (I:Int),.slice a n c] 49)) b4 (z00 leaf).toArray 23/\Has ((w.alloc (.cells (z00 leaf).toArray 23)).alloc (.cells #[.int .u64 (S:Int),.int .u64 (I:Int),.slice a n c] 49)) (b4+1) #[.int .u64 (S:Int),.int .u64 (I:Int),.slice a n c] 49):=by
  rw [hb4];exact ⟨((Below.refl _ _).alloc (Nat.le_refl _) _).alloc (by simp) _,(Has.new _ _ _).alloc _,Has.at _ _ _ (by simp)⟩
 rw [<-hb4];generalize (w.alloc (.cells (z00 leaf).toArray 23)).alloc (.cells #[.int .u64 (S:Int),.int .u64 (I:Int),.slice a n c] 49)=W0 at *
 have HT:Aside (∀ W,Below w.heap.size w W->Tabled W/\HX.Tabled W/\0<W.heap.size/\Flat W a n l/\2<W.heap.size):=fun W h=>by
  obtain ⟨a1,a2,a3,a4,a5,a6,a7,a8⟩:=HA.out;have hs:=h.size;exact ⟨a6.below (by omega) h,a7.below h,by omega,a5.below h,by omega⟩
 have HB:Aside (b4=w.heap.size):=hb4;clear hb4
 have hPL:PLA I S=(0,PLCS (PSP I S)):=by
  obtain ⟨a1,a2,a3,a4,a5,a6,a7,a8⟩:=HA.out;unfold PLA;rw [if_neg (by omega),if_neg (by omega)]
 have y0:W0.cell? ⟨b4+1,0,none⟩=some (.int .u64 (S:Int)):=R0.out.2.2.cell 0;have y1:W0.cell? ⟨b4+1,1,none⟩=some (.int .u64 (I:Int)):=R0.out.2.2.cell 1;go_wp2_with fail
 have cP:=z3R I S W0 (HT.out _ R0.out.1).1 (HT.out _ R0.out.1).2.2.1;rw [hPL] at cP;refine cP.mono ?_;clear cP y0 y1 hPL;rintro e w1 ⟨v,rfl,hrow,hb⟩;dsimp only at *
 have hnl:(PLCS (PSP I S)).length=n:=by have:=HA.out.2.2.2.1;rw [z0P,this]
 rw [hnl] at hrow;obtain ⟨av,cv,rfl, -⟩:=z1S hrow;have R1:Aside (Below w.heap.size w w1/\Has w1 b4 (z00 leaf).toArray 23/\Has w1 (b4+1) #[.int .u64 (S:Int),.int .u64 (I:Int),.slice a n c] 49/\w1.ownsRow W0.heap.size 24 1 (.slice av n cv) n (UCELLS (PLCS (PSP I S)))):=⟨R0.out.1.trans (hb.mono R0.out.1.size),R0.out.2.1.keep hb,R0.out.2.2.keep hb,hrow⟩
 clear hrow hb R0 hnl;have y2:w1.cell? ⟨b4+1,2,none⟩=some (.slice a n c):=R1.out.2.2.1.cell 2;go_wp2_with fail
 have hfew:n<=126:=by obtain ⟨a1,a2,a3,a4,_⟩:=HA.out;have:=z6M a2 a3;omega
 have hnd:∀ s∈PSP I S,Node s.1 s.2:=by
  obtain ⟨a1,a2,a3,a4,_⟩:=HA.out;exact fun s hs=>((z4b a2 a3).1 s hs).1
 refine (zdk (PSP I S) hnd W0.heap.size n HA.out.2.2.2.1.symm (by omega) (.slice av n cv) a c l w1 R1.out.2.2.2 (HT.out _ R1.out.1).2.2.2.1).mono ?_;clear y2 hnd;rintro e w2 ⟨mb,rfl,hM,hmb,hb⟩;obtain ⟨M1,hM1⟩:∃ M1,M1=MPUT (HAND (PSP I S) l n) 0 I leaf:=⟨_,rfl⟩
 have hIsM:∀ p q,IsH (M1 p q):=by
  rw [hM1];have hF:=(HT.out _ R1.out.1).2.2.2.1;exact z3T (z59 hF.1 hF.2.2 n (Nat.le_refl _)) HA.out.1 0 I
 obtain ⟨w3,st1,st2,st3⟩:=hM.store (h:=0) (k:=I) (by omega) (by decide) (by have:=HA.out;omega) leaf;rw [<-hM1] at st2;have st1:(Instr.mapUpdate 143 (.map (some mb)) (.agg #[.int .u8 0,.int .u64 (I:Int)]) (.agg (z00 leaf).toArray)).run Tryz.prog w2=.ok () w3:=st1;have R2:Aside (Below w.heap.size w w2/\Has w2 b4 (z00 leaf).toArray 23/\Has w2 (b4+1) #[.int .u64 (S:Int),.int .u64 (I:Int),.slice a n c] 49/\b4+1<mb):=⟨R1.out.1.trans (hb.mono R1.out.1.size),R1.out.2.1.keep hb,R1.out.2.2.1.keep hb,by have:=R1.out.2.2.1.lt;omega⟩
 have R3:Aside (Below w.heap.size w w3/\Has w3 (b4+1) #[.int .u64 (S:Int),.int .u64 (I:Int),.slice a n c] 49/\SMAP w3 mb (n+1) M1/\(∀ p q,IsH (M1 p q))/\b4+1<mb/\M1=MPUT (HAND (PSP I S) l n) 0 I leaf):=⟨R2.out.1.grown st3 R2.out.1.size (fun k e=>by cases e;have:=R2.out.2.2.2;have:=HB.out;omega),R2.out.2.2.1.grown st3 (by have:=R2.out.2.2.2;simp;omega),st2,hIsM,R2.out.2.2.2,hM1⟩
 have y1:w2.cell? ⟨b4+1,1,none⟩=some (.int .u64 (I:Int)):=R2.out.2.2.1.cell 1;have hH4:=R2.out.2.1;have z0:w3.cell? ⟨b4+1,0,none⟩=some (.int .u64 (S:Int)):=R3.out.2.1.cell 0;have z1:w3.cell? ⟨b4+1,1,none⟩=some (.int .u64 (I:Int)):=R3.out.2.1.cell 1;clear hM hmb hb R1 hM1 hIsM st2 st3 R2;go_wp2_with (refine wpList_load_row rfl 23 (.tmp 4) rfl b4 rfl 23 (z00 leaf).toArray (0,0) _ hH4 Tryz.underlying23 rfl (z07 l32) ?_)
 refine (z6J I S HA.out.2.1 HA.out.2.2.1 w3).mono ?_;clear st1 y1 hH4 z0 z1;rintro e w4 ⟨gp,cp,rfl,hrow,hg,hb⟩;have hrise:RISE I S<=62:=(z0U HA.out.2.1 HA.out.2.2.1).2.1;obtain ⟨T,hTT⟩:∃ T,RISE I S=T:=⟨_,rfl⟩
 rw [hTT] at hrise ⊢;have R4:Aside (Below w.heap.size w w4/\Has w4 (b4+1) #[.int .u64 (S:Int),.int .u64 (I:Int),.slice a n c] 49/\SMAP w4 mb (n+1+0) (JN d I M1 0)):=⟨R3.out.1.trans (hb.mono R3.out.1.size),R3.out.2.1.keep hb,R3.out.2.2.1.below hb⟩
 have KK:Aside ((∀ p q,IsH (M1 p q))/\b4+1<mb/\M1=MPUT (HAND (PSP I S) l n) 0 I leaf/\RISE I S=T/\T<=62/\n<=126/\2<mb):=⟨R3.out.2.2.2.1,R3.out.2.2.2.2.1,R3.out.2.2.2.2.2,hTT,hrise,hfew,by have h1:=HA.out;have h2:=HB.out;have h3:=R3.out.2.2.2.2.1;omega⟩
 clear hrow hg hb R3 hfew hTT hrise;go_wp2_with fail
 go_loopg [51] T (fun q s51 wx=>∃ t:Nat,s51=.int .i64 (t:Int)/\Aside (t+q=T/\Below w.heap.size w wx/\Has wx (b4+1) #[.int .u64 (S:Int),.int .u64 (I:Int),.slice a n c] 49/\SMAP wx mb (n+1+t) (JN d I M1 t)))
 case atStart=>exact ⟨0,rfl,by omega,R4.out⟩
 case round=>
  obtain ⟨t,rfl,A⟩:=hrel;clear R4;cases gk with
  | zero=>
    obtain rfl:t=T:=by have:=A.out.1;omega
    have hlt:¬ (t:Int)<(t:Int):=by omega
    have z0:wr.cell? ⟨b4+1,0,none⟩=some (.int .u64 (S:Int)):=A.out.2.2.1.cell 0;go_wp2_with fail
    have hH:=HT.out _ A.out.2.1;have hIs:∀ p q,IsH (JN d I M1 t p q):=z67 KK.out.1 t;refine (zdl mb (n+1+t) S HA.out.2.2.1 (JN d I M1 t) wr A.out.2.2.2 (fun s _=>(hIs s.1 s.2).1) hH.1 hH.2.2.1).mono ?_;rintro e w5 ⟨a5,c5,rfl,hrow,hb⟩
    have hC:JN d I M1 t=CLM d leaf S I l:=by
     unfold CLM;rw [KK.out.2.2.1,KK.out.2.2.2.1,HA.out.2.2.2.1]
    rw [hC] at hrow;have Z:Aside (w5.ownsRow w.heap.size 23 32 (.slice a5 (PC S) c5) (PC S) (z00 (CAT (CLM d leaf S I l) (SPAN 0 S)))/\Below w.heap.size w w5):=⟨z0W hrow A.out.2.1.size,A.out.2.1.trans (hb.mono A.out.2.1.size)⟩
    clear hrow hb hH hIs hC A KK HT HA;go_wp2;go_ret2;exact ⟨a5,c5,rfl,Z.out⟩
  | succ q=>
    have hlt:(t:Int)<(T:Int):=by have:=A.out.1;omega
    have z1:wr.cell? ⟨b4+1,1,none⟩=some (.int .u64 (I:Int)):=A.out.2.2.1.cell 1;obtain ⟨t1,ht1⟩:∃ t1,t+1=t1:=⟨_,rfl⟩
    have e1:wrap64 ((t:Int)+1)=(t1:Int):=by have:=KK.out;unfold wrap64;omega
    have e8:IntKind.u8.wrap (t1:Int)=(t1:Int):=by have:=KK.out;simp [IntKind.wrap,IntKind.bits,IntKind.signed];omega
    go_wp2_with fail
    have esh:(I:Int) / 2 ^ min t1 64=((I / 2 ^ t1:Nat):Int):=by
     rw [Nat.min_eq_left (by have:=KK.out;omega)];simp [Int.natCast_ediv]
    rw [esh]
    have hI61:2*(I / 2 ^ t1)+1<2 ^ 64:=by
     have h1:I / 2 ^ t1<=I:=Nat.div_le_self _ _;have:=HA.out;omega
    have hH:=HT.out _ A.out.2.1;have hIs:∀ p q,IsH (JN d I M1 t p q):=z67 KK.out.1 t;refine (zgf mb (n+1+t) t1 t (I / 2 ^ t1) d (JN d I M1 t) ht1.symm (by have:=KK.out;omega) hI61 (by have:=KK.out;omega) wr A.out.2.2.2 (hIs _ _) (hIs _ _) hH.2.1 KK.out.2.2.2.2.2.2).mono ?_;clear hH hIs hI61 esh;rintro e w5 ⟨rfl,hM,hg⟩
    have Z:Aside (t+1+q=T/\Below w.heap.size w w5/\Has w5 (b4+1) #[.int .u64 (S:Int),.int .u64 (I:Int),.slice a n c] 49/\SMAP w5 mb (n+1+(t+1)) (JN d I M1 (t+1))):=by
     obtain ⟨a1,a2,a3,a4⟩:=A.out;have hmb:=KK.out.2.1;have hb4:=HB.out;refine ⟨by omega,a2.grown hg a2.size (fun k e=>by cases e;omega),a3.grown hg (by simp;omega),?_⟩;rw [<-ht1] at hM;exact hM
    have E1:Aside (wrap64 ((t:Int)+1)=((t+1:Nat):Int)):=by have:=KK.out;show wrap64 ((t:Int)+1)=((t+1:Nat):Int);unfold wrap64;omega
    clear hM hg A z1 e1 e8;have e1:=E1.out;go_wp2;go_roundg q
    case measure=>exact Nat.lt_succ_self _
    case rel=>exact ⟨t+1,by first | rfl | (rw [E1.out]),Z.out⟩
def ANSH (w:World) (A:Int × Nat × List Int) (e:Ending) (w':World):Prop:=∃ a c,e=.returned (.tuple #[.slice a A.2.1 c,.int .i64 A.1])/\w'.ownsRow w.heap.size 23 32 (.slice a A.2.1 c) A.2.1 (z00 A.2.2)/\Below w.heap.size w w'
theorem z8I (d:Int) (leaf:List Int) (hleaf:IsH leaf) (S I:Nat) (a:Option Addr) (n c:Nat) (l:List Int) (w:World) (hF:Flat w a n l) (hT:Tabled w) (hX:HX.Tabled w) (h0:2<w.heap.size):
  Calls Tryz.prog 56 #[.int .i64 d,.agg (z00 leaf).toArray,.agg #[.int .u64 (S:Int),.int .u64 (I:Int),.slice a n c]] w (ANSH w (CLA d leaf S I n l)):=by
 unfold CLA;by_cases hE:(PLA I S).1=0
 ·rw [if_neg (by simpa using hE)]
  have hIS:I<S/\S<=4611686018427387904:=by
   unfold PLA at hE;split at hE
   ·simp at hE
   ·split at hE
    ·simp at hE
    ·omega
  have hPL:PLA I S=(0,PLCS (PSP I S)):=by
   unfold PLA;rw [if_neg (by omega),if_neg (by omega)]
  have hlen:(PLA I S).2.length=(PSP I S).length:=by rw [hPL];exact z0P _
  by_cases hn:n=(PLA I S).2.length
  ·rw [if_neg (by simpa using hn)]
   exact zbI d leaf hleaf S I hIS.1 hIS.2 a n c (by omega) l w hF hT hX h0
  ·rw [if_pos hn]
   have HB:Aside (Below w.heap.size w ((w.alloc (.cells (z00 leaf).toArray 23)).alloc (.cells #[.int .u64 (S:Int),.int .u64 (I:Int),.slice a n c] 49))):=((Below.refl _ _).alloc (Nat.le_refl _) _).alloc (by simp) _;have hH:Has ((w.alloc (.cells (z00 leaf).toArray 23)).alloc (.cells #[.int .u64 (S:Int),.int .u64 (I:Int),.slice a n c] 49)) (w.heap.size+1) #[.int .u64 (S:Int),.int .u64 (I:Int),.slice a n c] 49:=Has.at _ _ _ (by simp);have cP:=z3R I S _ (hT.below (by omega) HB.out) (Nat.lt_of_lt_of_le (by omega) HB.out.size);rw [hPL] at cP hn;obtain ⟨N,hN⟩:∃ N,(PLCS (PSP I S)).length=N:=⟨_,rfl⟩
   dsimp only at cP hn;rw [hN] at cP hn;have HN:Aside (n≠N):=hn;obtain ⟨b5,hb5⟩:∃ b5,b5=w.heap.size+1:=⟨_,rfl⟩
   rw [<-hb5] at hH;have HH:Aside (Has ((w.alloc (.cells (z00 leaf).toArray 23)).alloc (.cells #[.int .u64 (S:Int),.int .u64 (I:Int),.slice a n c] 49)) b5 #[.int .u64 (S:Int),.int .u64 (I:Int),.slice a n c] 49):=hH;clear hT hX h0 hE hIS hPL hlen hn hN hF hleaf hH;go_enter Tryz.func56,Tryz.ntmps56;go_wp2_with fail
   rw [<-hb5];clear hb5;refine cP.mono ?_;rintro e w1 ⟨v,rfl,hrow,hb⟩
   have hv:∃ a' c',v=.slice a' N c':=by
    obtain ⟨av,cv,e, -⟩:=z1S hrow;exact ⟨av,cv,e⟩
   have y2:w1.cell? ⟨b5,2,none⟩=some (.slice a n c):=(HH.out.keep hb).cell 2;have R:Aside (Below w.heap.size w w1):=HB.out.trans (hb.mono HB.out.size);clear hrow hb cP HB HH;obtain ⟨a',c',rfl⟩:=hv;go_wp2_with fail
   refine (zbG (.slice a' N c') N ⟨a',c',rfl⟩ a n c HN.out w1).mono ?_;rintro e w2 ⟨rfl,rfl⟩;clear y2;go_wp2;go_ret2;exact ⟨none,0,rfl,World.ownsRow_nil _ _ _ _,R.out⟩
 ·rw [if_pos hE]
  have HB:Aside (Below w.heap.size w ((w.alloc (.cells (z00 leaf).toArray 23)).alloc (.cells #[.int .u64 (S:Int),.int .u64 (I:Int),.slice a n c] 49))):=((Below.refl _ _).alloc (Nat.le_refl _) _).alloc (by simp) _;have cP:=z3R I S _ (hT.below (by omega) HB.out) (Nat.lt_of_lt_of_le (by omega) HB.out.size);obtain ⟨E,hEe⟩:∃ E,(PLA I S).1=E:=⟨_,rfl⟩
  rw [hEe] at cP hE ⊢;have hne:((E:Int) != 0)=true:=by simp [hE]
  clear hT hX h0 hE hEe hF hleaf;go_enter Tryz.func56,Tryz.ntmps56;go_wp2_with fail
  refine cP.mono ?_;rintro e w1 ⟨v,rfl,hrow,hb⟩;have R:Aside (Below w.heap.size w w1):=HB.out.trans (hb.mono HB.out.size);clear hrow hb cP HB;go_wp2;go_ret2;exact ⟨none,0,rfl,World.ownsRow_nil _ _ _ _,R.out⟩
def FA (d:Int) (l:List Int) (n:Nat):Nat->List Int
 | 0=>HSH l (n - 1)
 | k+1=>z1s d (HSH l (n - 2 - k)) (FA d l n k)
def FLD (d:Int) (l:List Int) (n:Nat):List Int:=if n=0 then ZND else FA d l n (n - 1)
theorem z68 {d:Int} {l:List Int} {n:Nat} (hl:l.length=32*n) (hr:∀ x∈l,0<=x/\x<=255) (hn:0<n):∀ k,IsH (FA d l n k)
 | 0=>z26 hl hr (by omega)
 | k+1=>z5H _ _ _
theorem z8J {d:Int} {l:List Int} {n:Nat} (hl:l.length=32*n) (hr:∀ x∈l,0<=x/\x<=255):IsH (FLD d l n):=by
 unfold FLD;split
 ·exact z4Q
 ·exact z68 hl hr (by omega) _
theorem z27 {fn:Func} {p:Tmp} {ty:TypeId} (h:fn.results=#[.cell p ty]) (tmps:Array Value) (w:World) (g:Nat) (t:TypeId) (cs:Array Value) (fr:Nat × Nat) (k:Nat) (el:TypeId)
  (hp:tmps.getD p undef=.pointer (some ⟨g,0,none⟩)) (hg:w.heap[g]?=some (.cells cs t fr))
  (hu:Tryz.prog.underlying ty=some (.array k el)) (hi:(Tryz.prog.info? ty).map (·.size)=some cs.size):
  (results fn tmps).run Tryz.prog w=.ok (.agg cs) w:=by
 have hp':tmps[p]?.getD undef=.pointer (some ⟨g,0,none⟩):=by simpa using hp
 simp [results,h,hp',asAddr,run_loadVar_row w g t ty cs fr (.array k el) hg hu rfl hi]
theorem zdm (d:Int) (a:Option Addr) (n c:Nat) (hn:n<=1000) (l:List Int) (w:World) (hF:Flat w a n l) (hX:HX.Tabled w):
  Calls Tryz.prog 127 #[.int .i64 d,.slice a n c] w fun e w'=>e=.returned (.agg (z00 (FLD d l n)).toArray)/\Below w.heap.size w w':=by
 have R0:Aside (Below w.heap.size w (w.alloc (.cells ZARR 23))/\Has (w.alloc (.cells ZARR 23)) w.heap.size (z00 ZND).toArray 23):=⟨(Below.refl _ _).alloc (Nat.le_refl _) _,by rw [z3S];exact Has.new _ _ _⟩
 by_cases h0:n=0
 ·subst h0
  have e:FLD d l 0=ZND:=rfl;rw [e];clear hF hX hn e;go_enter Tryz.func127,Tryz.ntmps127;go_upto_region 2 with fail
  rw [show (#[.int .u8 0,.int .u8 0,.int .u8 0,.int .u8 0,.int .u8 0,.int .u8 0,.int .u8 0,.int .u8 0,.int .u8 0,.int .u8 0,.int .u8 0,.int .u8 0,.int .u8 0,.int .u8 0,.int .u8 0,.int .u8 0,.int .u8 0,.int .u8 0,.int .u8 0,.int .u8 0,.int .u8 0,.int .u8 0,.int .u8 0,.int .u8 0,.int .u8 0,.int .u8 0,.int .u8 0,.int .u8 0,.int .u8 0,.int .u8 0,.int .u8 0,.int .u8 0]:Array Value)=ZARR from rfl];generalize w.alloc (.cells ZARR 23)=W0 at *
  go_wp2_with (rw [show (#[.int .u8 0,.int .u8 0,.int .u8 0,.int .u8 0,.int .u8 0,.int .u8 0,.int .u8 0,.int .u8 0,.int .u8 0,.int .u8 0,.int .u8 0,.int .u8 0,.int .u8 0,.int .u8 0,.int .u8 0,.int .u8 0,.int .u8 0,.int .u8 0,.int .u8 0,.int .u8 0,.int .u8 0,.int .u8 0,.int .u8 0,.int .u8 0,.int .u8 0,.int .u8 0,.int .u8 0,.int .u8 0,.int .u8 0,.int .u8 0,.int .u8 0,.int .u8 0]:Array Value)=(z00 ZND).toArray from rfl];refine wpList_store_row rfl 23 (.tmp 4) (.tmp 11) rfl _ _ rfl rfl 23 _ R0.out.2 (z07 rfl) rfl (z0p ZND) ?_)
  refine bodyPost_ret (v:=.agg (z00 ZND).toArray) (z27 rfl _ _ w.heap.size 23 _ (0,0) _ _ rfl (Has.row R0.out.2 _) Tryz.underlying23 (z07 rfl)) rfl ⟨rfl,z0b R0.out.1 (Nat.le_refl _) _⟩
 ·obtain ⟨m,hm⟩:∃ m,n=m+1:=⟨n - 1,by omega⟩
  obtain ⟨gn,o,rfl,hgn,hcn⟩:=hF.2.1 (by omega);have hz:¬ (n:Int)=0:=by omega
  have e1:wrap64 ((n:Int) - 1)=(m:Int):=by unfold wrap64;omega
  have hml:(m:Int)<(n:Int):=by omega
  have hm0:(0:Int)<=(m:Int):=by omega
  have e:FLD d l n=FA d l n m:=by unfold FLD;rw [if_neg h0,show n - 1=m by omega]
  rw [e];have HA:Aside (n=m+1/\n<=1000/\Flat w (some ⟨gn,o,none⟩) n l/\HX.Tabled w/\gn<w.heap.size/\∀ k,IsH (FA d l n k)):=⟨hm,hn,hF,hX,hgn,z68 hF.1 hF.2.2 (by omega)⟩
  clear hm hn hF hX hgn hcn h0 e;go_enter Tryz.func127,Tryz.ntmps127;go_upto_region 3 with fail
  rw [show (#[.int .u8 0,.int .u8 0,.int .u8 0,.int .u8 0,.int .u8 0,.int .u8 0,.int .u8 0,.int .u8 0,.int .u8 0,.int .u8 0,.int .u8 0,.int .u8 0,.int .u8 0,.int .u8 0,.int .u8 0,.int .u8 0,.int .u8 0,.int .u8 0,.int .u8 0,.int .u8 0,.int .u8 0,.int .u8 0,.int .u8 0,.int .u8 0,.int .u8 0,.int .u8 0,.int .u8 0,.int .u8 0,.int .u8 0,.int .u8 0,.int .u8 0,.int .u8 0]:Array Value)=ZARR from rfl];generalize w.alloc (.cells ZARR 23)=W0 at *
  have hat:W0.rangeAt gn (o+m*32) (z00 (FA d l n 0)):=by
   have h1:=(HA.out.2.2.1.below R0.out.1).at (show m<n by have:=HA.out.1;omega)
   have h2:FA d l n 0=HSH l m:=by have:=HA.out.1;rw [FA,show n - 1=m by omega]
   rw [h2];exact h1
  have h32:=(HA.out.2.2.2.2.2 0).1;generalize hA0:FA d l n 0=A0 at *
  go_wp2_with (first
   | (refine wpList_load_mid rfl 23 (.tmp 17) rfl gn (o+m*32) rfl (z00 A0) _ hat Tryz.underlying23 rfl (z0a h32) ?_)
   | (refine wpList_store_row rfl 23 (.tmp 6) (.tmp 18) rfl _ _ rfl rfl 23 _ (Has.new W0 _ _) (z07 h32) (by simp [z00,h32]) (z0p A0) ?_;rw [World.setRow_alloc_new]))
  have R1:Aside (Below w.heap.size w (W0.alloc (.cells (z00 A0).toArray 23))/\Has (W0.alloc (.cells (z00 A0).toArray 23)) w.heap.size (z00 ZND).toArray 23/\Has (W0.alloc (.cells (z00 A0).toArray 23)) W0.heap.size (z00 (FA d l n 0)).toArray 23/\w.heap.size<W0.heap.size):=⟨R0.out.1.alloc R0.out.1.size _,R0.out.2.alloc _,by rw [hA0];exact Has.new _ _ _,R0.out.2.lt⟩
  clear hat h32 hA0 R0;generalize W0.alloc (.cells (z00 A0).toArray 23)=W1 at *
  generalize W0.heap.size=b6 at *
  clear W0;have K:Aside (w.heap.size<b6):=R1.out.2.2.2;have E0:Aside (wrap64 ((m:Int) - 1)=(m:Int) - 1):=by have:=HA.out.1;have:=HA.out.2.1;show wrap64 ((m:Int) - 1)=(m:Int) - 1;unfold wrap64;omega
  go_loopg [7] m (fun q s7 wx=>∃ x:Int,s7=.int .i64 x/\Aside (q<=m/\x=(q:Int) - 1/\Below w.heap.size w wx/\Has wx w.heap.size (z00 ZND).toArray 23/\Has wx b6 (z00 (FA d l n (m - q))).toArray 23))
  case atStart=>exact ⟨_,rfl,Nat.le_refl _,E0.out,R1.out.1,R1.out.2.1,by rw [Nat.sub_self];exact R1.out.2.2.1⟩
  case round=>
   obtain ⟨x,rfl,A⟩:=hrel;clear R1 E0;cases gk with
   | zero=>
     obtain rfl:x = -1:=by have:=A.out.2.1;omega
     have y32:=(HA.out.2.2.2.2.2 m).1;have hH4:=A.out.2.2.2.1;have hH6:Has wr b6 (z00 (FA d l n m)).toArray 23:=A.out.2.2.2.2;have hb:=A.out.2.2.1;clear A HA;generalize hY0:FA d l n m=Y at *
     go_wp2_with (first
      | (refine wpList_load_row rfl 23 (.tmp 6) rfl b6 rfl 23 (z00 Y).toArray (0,0) _ hH6 Tryz.underlying23 rfl (z07 y32) ?_)
      | (refine wpList_store_row rfl 23 (.tmp 4) (.tmp 32) rfl _ _ rfl rfl 23 _ hH4 (z07 y32) (by simp [z00,y32];rfl) (z0p Y) ?_))
     refine bodyPost_ret (v:=.agg (z00 Y).toArray) (z27 rfl _ _ w.heap.size 23 _ (0,0) _ _ rfl (Has.row hH4 _) Tryz.underlying23 (z07 y32)) rfl ⟨by rw [hY0],z0b hb (Nat.le_refl _) _⟩
   | succ q=>
     obtain rfl:x=(q:Int):=by have:=A.out.2.1;omega
     have hq0:(0:Int)<=(q:Int):=by omega
     have hb:=A.out.2.2.1;obtain ⟨h1,h2,h3,h4,h5,h6⟩:=HA.out;have hqm:q+1<=m:=A.out.1
     have eY:FA d l n (m - q)=z1s d (HSH l q) (FA d l n (m - (q+1))):=by
      rw [show m - q=(m - (q+1))+1 by omega,FA,show n - 2 - (m - (q+1))=q by omega]
     have hL:IsH (HSH l q):=z26 h3.1 h3.2.2 (by omega);have hR:=h6 (m - (q+1));have hY:=h6 (m - q);have hb1:(q:Int)<(n:Int):=by omega
     have cF:=zf8 d (HSH l q) (FA d l n (m - (q+1))) hL hR wr.drew (h4.below hb.drew);have hLr:=((h3.below hb).at (show q<n by omega))
     have hE1:Aside (wrap64 ((q:Int) - 1)=(q:Int) - 1):=by show wrap64 ((q:Int) - 1)=(q:Int) - 1;unfold wrap64;omega
     rw [<-eY] at cF;clear h1 h2 h3 h4 h5 h6 eY hb HA;generalize FA d l n (m - (q+1))=R at *
     generalize HSH l q=L at *
     have hH6:=A.out.2.2.2.2;go_upto_region 8 with fail
     refine z7R _ _ _ _ _ _ _ _ _ _ _ _ _ _ _ _ _ _ _ _ _ _ _ _ _ _ _ _ _ wr b6 gn o n c q d L R (FA d l n (m - q)) hL.1 hR.1 hY.1 hb1 hLr (z0q hH6) (fun W=>Below w.heap.size w W/\Has W w.heap.size (z00 ZND).toArray 23) (cF.mono ?_) (fun _ _ _ _ _ h=>h) ?_
     ·rintro e w' ⟨rfl,hb⟩
      have hb':Below wr.heap.size wr w':=(Below.refl _ wr).drew.trans hb;exact ⟨_,rfl,rfl,hH6.keep hb',A.out.2.2.1.trans (hb'.mono A.out.2.2.1.size),A.out.2.2.2.1.keep hb'⟩
     ·rintro X w' ⟨rfl,g1,g2,g3⟩
      dsimp only;have Z:Aside (q<=m/\(q:Int) - 1=(q:Int) - 1/\Below w.heap.size w (w'.setRow b6 (z00 (FA d l n (m - q))).toArray)/\Has (w'.setRow b6 (z00 (FA d l n (m - q))).toArray) w.heap.size (z00 ZND).toArray 23/\Has (w'.setRow b6 (z00 (FA d l n (m - q))).toArray) b6 (z00 (FA d l n (m - q))).toArray 23):=⟨by omega,rfl,z0b g2 (by have:=K.out;omega) _,g3.row_other (by have:=K.out;omega) _,g1.row _⟩
      clear cF hLr hL hR hY hb1 hq0 hqm A g1 g2 g3 hH6;have e1:=hE1.out;generalize w'.setRow b6 (z00 (FA d l n (m - q))).toArray=w3 at *
      go_wp2;go_roundg q
      case measure=>exact Nat.lt_succ_self _
      case rel=>exact ⟨_,rfl,Z.out.1,rfl,Z.out.2.2⟩
end Go.Proofs.YtnimaaflmdoaaaaGreatDoor
namespace Go.Proofs.YtnimaaflmdoaaaaGreatDoor
set_option maxRecDepth 100000
def WAYH (d:Int) (leaf:List Int) (I:Nat) (l:List Int):Nat->List Int
 | 0=>leaf
 | t+1=>if I / 2 ^ t % 2=0 then z0t d (WAYH d leaf I l t) (HSH l t) else z0t d (HSH l t) (WAYH d leaf I l t)
theorem z6S {ss:List (Nat × Nat)} {l:List Int} (hp:ss.Pairwise Off) {t h k:Nat} (ht:ss[t]?=some (h,k)):∀ N,t<N->N<=ss.length->HAND ss l N h k=HSH l t
 | 0,h0,_=>by omega
 | N + 1,h1,h2=>by
   rw [HAND];by_cases e:t=N
   ·subst e
    rw [show ss.getD t (0,0)=(h,k) by rw [List.getD_eq_getElem?_getD,ht];rfl];exact z56 _ _ _ _
   ·have hlt:t<N:=by omega
    obtain ⟨s,hs⟩:∃ s,ss[N]?=some s:=⟨_,List.getElem?_eq_getElem (by omega)⟩
    have ho:=Pairwise.at_lt hp hlt ht hs;rw [show ss.getD N (0,0)=s by rw [List.getD_eq_getElem?_getD,hs];rfl];rw [z2v]
    ·exact z6S hp ht N hlt (by omega)
    ·rintro ⟨e1,e2⟩
     obtain ⟨a,b⟩:=s;dsimp only at e1 e2;subst e1 e2;have:=Nat.two_pow_pos h;unfold Off at ho;dsimp only at ho;rw [Nat.add_mul] at ho;omega
theorem z5I {d:Int} {I:Nat} {M:Nat->Nat->List Int} {h k:Nat} (hk:k≠I / 2 ^ h):∀ t,JN d I M t h k=M h k
 | 0=>rfl
 | t + 1=>by
   rw [JN,z2v]
   ·exact z5I hk t
   ·rintro ⟨e1,e2⟩
    subst e1;exact hk e2
theorem z6T {i n t:Nat} (ht:t<RISE i n):(PSP i n)[t]?=some (t,SIB (i / 2 ^ t)):=by
 unfold PSP;rw [List.getElem?_append_left (by rw [z1N];exact ht)];simp [WAYS,ht]
theorem z8K {i n j:Nat} (hj:j≠KTH i n):(PSP i n)[RISE i n+(if j<KTH i n then j else j - 1)]?=(SPAN 0 n)[j]?:=by
 unfold PSP;rw [List.getElem?_append_right (by rw [z1N];omega),z1N,Nat.add_sub_cancel_left,List.getElem?_eraseIdx];by_cases h:j<KTH i n
 ·rw [if_pos h,if_pos h]
 ·rw [if_neg h,if_neg (by omega),show j - 1+1=j by omega]
theorem z2I {q:Nat}:(q % 2=0->SIB q=2*(q / 2)+1/\2*(q / 2)=q)/\(q % 2=1->SIB q=2*(q / 2)/\2*(q / 2)+1=q):=by
 unfold SIB;refine ⟨fun h=>?_,fun h=>?_⟩ <;> (try split) <;> omega
theorem zdn {d:Int} {leaf:List Int} {S I:Nat} (hI:I<S) (hS:S<=4611686018427387904) (l:List Int):∀ t,t<=RISE I S->JN d I (MPUT (HAND (PSP I S) l (PSP I S).length) 0 I leaf) t t (I / 2 ^ t)=WAYH d leaf I l t
 | 0,_=>by
   rw [JN,Nat.pow_zero,Nat.div_one];exact z56 _ _ _ _
 | t + 1,h=>by
   have ih:=zdn hI hS (d:=d) (leaf:=leaf) l t (by omega);obtain ⟨p1,p2,_⟩:=z4b hI hS;have hw:=z6T (i:=I) (n:=S) (t:=t) (by omega);have hlt:t<(PSP I S).length:=(List.getElem?_eq_some_iff.1 hw).1;have hd:I / 2 ^ (t+1)=I / 2 ^ t / 2:=by rw [Nat.pow_succ,Nat.div_div_eq_div_mul]
   have hsib:JN d I (MPUT (HAND (PSP I S) l (PSP I S).length) 0 I leaf) t t (SIB (I / 2 ^ t))=HSH l t:=by
    have hne:SIB (I / 2 ^ t)≠I / 2 ^ t:=by have:=z2I (q:=I / 2 ^ t);omega
    rw [z5I hne,z2v,z6S p2 hw _ hlt (Nat.le_refl _)];rintro ⟨e1,e2⟩;subst e1;rw [Nat.pow_zero,Nat.div_one] at hne e2;exact hne e2
   rw [JN,z56,WAYH,hd];by_cases hq:I / 2 ^ t % 2=0
   ·obtain ⟨e1,e2⟩:=z2I.1 hq
    rw [if_pos hq,<-e1,hsib,e2,ih]
   ·obtain ⟨e1,e2⟩:=z2I.2 (by omega:I / 2 ^ t % 2=1)
    rw [if_neg hq,e2,<-e1,hsib,ih]
def PEK (d:Int) (leaf:List Int) (S I:Nat) (l:List Int) (j:Nat):List Int:=if j=KTH I S then WAYH d leaf I l (RISE I S) else HSH l (RISE I S+(if j<KTH I S then j else j - 1))
theorem z5J {d:Int} {leaf:List Int} {S I:Nat} (hI:I<S) (hS:S<=4611686018427387904) (l:List Int) {j h k:Nat} (hj:(SPAN 0 S)[j]?=some (h,k)):CLM d leaf S I l h k=PEK d leaf S I l j:=by
 unfold CLM PEK;by_cases e:j=KTH I S
 ·subst e
  rw [if_pos rfl];have h1:=(z3e hI hS).1;rw [hj] at h1;simp only [Option.some.injEq,Prod.mk.injEq] at h1;rw [h1.1,h1.2];exact zdn hI hS l _ (Nat.le_refl _)
 ·rw [if_neg e]
  have h1:=z8K (i:=I) (n:=S) e;rw [hj] at h1;obtain ⟨p1,p2,_⟩:=z4b hI hS;have h3:=(p1 _ (List.mem_of_getElem? h1)).2.2;have hlt:=(List.getElem?_eq_some_iff.1 h1).1
  have hne:k≠I / 2 ^ h:=by
   rintro rfl;apply h3;dsimp only;exact ⟨Nat.div_mul_le_self I _,by have:=Nat.lt_div_mul_add (a:=I) (Nat.two_pow_pos h);rw [Nat.add_mul];omega⟩
  rw [z5I hne,z2v,z6S p2 h1 _ hlt (Nat.le_refl _)];rintro ⟨e1,e2⟩;subst e1;rw [Nat.pow_zero,Nat.div_one] at hne;exact hne e2
def z0u (l r:List Int):List Nat:=1 :: (NATS l ++ NATS r)
def z1a (l r:List Int):List Nat:=2 :: (NATS l ++ NATS r)
def z1t (n:Nat) (r:List Int):List Nat:=3 :: (HX.BE8 n ++ NATS r)
def HSHT (d:Int) (t:List Nat):List Int:=LST (HX.z0e d t)
theorem z3U (d:Int) (t:List Nat):IsH (HSHT d t):=z25 fun i=>HX.z1I d _ _ i
def INJ (d:Int) (T:List (List Nat)):Prop:=∀ s∈T,∀ t∈T,HSHT d s=HSHT d t->s=t
theorem z5r (h:List Int):(NATS h).length=32:=by simp [NATS]
theorem z5K {h k:List Int} (hh:IsH h) (hk:IsH k) (e:NATS h=NATS k):h=k:=by
 apply List.ext_getElem (by rw [hh.1,hk.1]);intro i h1 h2;have e2:(NATS h)[i]?=(NATS k)[i]?:=by rw [e]
 have hi:i<32:=by rw [<-hh.1];exact h1
 simp only [NATS,List.getElem?_map,List.getElem?_range hi,Option.map_some,Option.some.injEq,FNC] at e2;rw [List.getD_eq_getElem?_getD,List.getD_eq_getElem?_getD,List.getElem?_eq_getElem h1,List.getElem?_eq_getElem h2,Option.getD_some,Option.getD_some] at e2;have a:=hh.2 _ (List.getElem_mem h1);have b:=hk.2 _ (List.getElem_mem h2);omega
theorem z7r {l r l' r':List Int} (hl:IsH l) (hr:IsH r) (hl':IsH l') (hr':IsH r') (e:NATS l ++ NATS r=NATS l' ++ NATS r'):l=l'/\r=r':=by
 obtain ⟨a,b⟩:=List.append_inj e (by rw [z5r,z5r]);exact ⟨z5K hl hl' a,z5K hr hr' b⟩
theorem z8L {d:Int} {T:List (List Nat)} (hT:INJ d T) {l r l' r':List Int} (hl:IsH l) (hr:IsH r) (hl':IsH l') (hr':IsH r') (h1:z0u l r∈T) (h2:z0u l' r'∈T) (e:z0t d l r=z0t d l' r'):l=l'/\r=r':=by
 have:=hT _ h1 _ h2 e;unfold z0u at this;exact z7r hl hr hl' hr' (List.cons.inj this).2
theorem zfa {d:Int} {T:List (List Nat)} (hT:INJ d T) {l r l' r':List Int} (hl:IsH l) (hr:IsH r) (hl':IsH l') (hr':IsH r') (h1:z1a l r∈T) (h2:z1a l' r'∈T) (e:z1s d l r=z1s d l' r'):l=l'/\r=r':=by
 have:=hT _ h1 _ h2 e;unfold z1a at this;exact z7r hl hr hl' hr' (List.cons.inj this).2
theorem zfb {d:Int} {T:List (List Nat)} (hT:INJ d T) {n:Nat} {r r':List Int} (hr:IsH r) (hr':IsH r') (h1:z1t n r∈T) (h2:z1t n r'∈T) (e:z1x d n r=z1x d n r'):r=r':=by
 have:=hT _ h1 _ h2 e;unfold z1t at this;exact z5K hr hr' (List.append_cancel_left (List.cons.inj this).2)
def BAGS (d:Int) (n k:Nat) (l:List Int) (T:List (List Nat)):Prop:=(∀ q,q+1<k->z1a (HSH l (k - 2 - q)) (FA d l k q)∈T)/\z1t n (FLD d l k)∈T
theorem BAGS.mono {d:Int} {n k:Nat} {l:List Int} {T T':List (List Nat)} (h:BAGS d n k l T) (hs:∀ t∈T,t∈T'):BAGS d n k l T':=⟨fun q hq=>hs _ (h.1 q hq),hs _ h.2⟩
theorem zgg {d:Int} {n k:Nat} {l l':List Int} {T:List (List Nat)} (hT:INJ d T) (hl:l.length=32*k) (hr:∀ x∈l,0<=x/\x<=255) (hl':l'.length=32*k) (hr':∀ x∈l',0<=x/\x<=255) (h1:BAGS d n k l T) (h2:BAGS d n k l' T) (e:z1x d n (FLD d l k)=z1x d n (FLD d l' k)):l=l':=by
 have e1:=zfb hT (z8J hl hr) (z8J hl' hr') h1.2 h2.2 e;by_cases hk:k=0
 ·subst hk
  rw [List.length_eq_zero_iff.1 hl,List.length_eq_zero_iff.1 hl']
 ·unfold FLD at e1
  rw [if_neg hk,if_neg hk] at e1
  have step:∀ q,q+1<k->FA d l k (q+1)=FA d l' k (q+1)->HSH l (k - 2 - q)=HSH l' (k - 2 - q)/\FA d l k q=FA d l' k q:=fun q hq e2=>
   zfa hT (z26 hl hr (by omega)) (z68 hl hr (by omega) q) (z26 hl' hr' (by omega)) (z68 hl' hr' (by omega) q) (h1.1 q hq) (h2.1 q hq) e2
  have down:∀ j,j<=k - 1->FA d l k (k - 1 - j)=FA d l' k (k - 1 - j):=by
   intro j;induction j with
   | zero=>intro _;exact e1
   | succ j ih=>
     intro hj;have:=ih (by omega);rw [show k - 1 - j=(k - 1 - (j+1))+1 by omega] at this;exact (step _ (by omega) this).2
  refine zge hl hl' fun i hi=>?_;by_cases hi1:i=k - 1
  ·have:=down (k - 1) (Nat.le_refl _)
   rw [Nat.sub_self] at this;rw [hi1];exact this
  ·have:=down i (by omega)
   rw [show k - 1 - i=(k - 2 - i)+1 by omega] at this;have:=(step (k - 2 - i) (by omega) this).1;rw [show k - 2 - (k - 2 - i)=i by omega] at this;exact this
def WAYT (d:Int) (leaf:List Int) (I m:Nat) (l:List Int) (T:List (List Nat)):Prop:=∀ t,t<m->(if I / 2 ^ t % 2=0 then z0u (WAYH d leaf I l t) (HSH l t) else z0u (HSH l t) (WAYH d leaf I l t))∈T
theorem WAYT.mono {d:Int} {leaf:List Int} {I m:Nat} {l:List Int} {T T':List (List Nat)} (h:WAYT d leaf I m l T) (hs:∀ t∈T,t∈T'):WAYT d leaf I m l T':=fun t ht=>hs _ (h t ht)
theorem z5L {d:Int} {leaf:List Int} {I:Nat} {l:List Int} (hleaf:IsH leaf):∀ t,IsH (WAYH d leaf I l t)
 | 0=>hleaf
 | t+1=>by
   rw [WAYH];split
   ·exact z3i _ _ _
   ·exact z3i _ _ _
theorem zgh {d:Int} {x y:List Int} {I m N:Nat} {l l':List Int} {T:List (List Nat)} (hT:INJ d T) (hx:IsH x) (hy:IsH y) (hm:m<=N) (hl:l.length=32*N) (hr:∀ x∈l,0<=x/\x<=255) (hl':l'.length=32*N) (hr':∀ x∈l',0<=x/\x<=255) (h1:WAYT d x I m l T) (h2:WAYT d y I m l' T) (e:WAYH d x I l m=WAYH d y I l' m):x=y:=by
 induction m with
 | zero=>exact e
 | succ m ih=>
   refine ih (by omega) (fun t ht=>h1 t (by omega)) (fun t ht=>h2 t (by omega)) ?_;have a:=h1 m (by omega);have b:=h2 m (by omega);rw [WAYH,WAYH] at e;have i1:=z5L (d:=d) (I:=I) (l:=l) hx m;have i2:=z5L (d:=d) (I:=I) (l:=l') hy m;have i3:=z26 hl hr (show m<N by omega);have i4:=z26 hl' hr' (show m<N by omega);by_cases hq:I / 2 ^ m % 2=0
   ·rw [if_pos hq] at a b
    rw [if_pos hq,if_pos hq] at e;exact (z8L hT i1 i3 i2 i4 a b e).1
   ·rw [if_neg hq] at a b
    rw [if_neg hq,if_neg hq] at e;exact (z8L hT i3 i1 i4 i2 a b e).2
end Go.Proofs.YtnimaaflmdoaaaaGreatDoor
