/- ProofMakes: part 24. -/
import Derived.Test.YthmnailmbgondaaGreatDoorProofMakesP23
set_option maxHeartbeats 1000000
namespace Go.Proofs.YthmnailmbgondaaGreatDoor
open Go.RowKit
set_option maxRecDepth 100000
def Flat (w:World) (a:Option Addr) (n:Nat) (l:List Int):Prop:=
 l.length=32*n/\(0<n->∃ b o,a=some ⟨b,o,none⟩/\b<w.heap.size/\∀ j,j<32*n->w.cell? ⟨b,o+j,none⟩=some (.int .u8 (l.getD j 0)))/\∀ x∈l,0<=x/\x<=255
theorem Flat.below {w w':World} {a:Option Addr} {n:Nat} {l:List Int} (h:Flat w a n l) (hb:Below w.heap.size w w'):Flat w' a n l:=
 ⟨h.1,fun hn=>by
  obtain ⟨b,o,e,hl,hc⟩:=h.2.1 hn;exact ⟨b,o,e,Nat.lt_of_lt_of_le hl hb.size,fun i hi=>(hb.cell (by exact hl)).trans (hc i hi)⟩,h.2.2⟩
def HSH (l:List Int) (i:Nat):List Int:=(l.drop (32*i)).take 32
theorem z1x {l:List Int} {n i:Nat} (hl:l.length=32*n) (hi:i<n):(HSH l i).length=32:=by
 unfold HSH;rw [List.length_take,List.length_drop];omega
theorem zdq {l:List Int} {i j:Nat} (hj:j<32):(HSH l i).getD j 0=l.getD (32*i+j) 0:=by
 unfold HSH;rw [List.getD_eq_getElem?_getD,List.getElem?_take,if_pos hj,List.getElem?_drop,List.getD_eq_getElem?_getD]
theorem zgs {l:List Int} {i:Nat} {x:Int} (h:x∈HSH l i):x∈l:=List.mem_of_mem_drop (List.mem_of_mem_take h)
theorem z5M (l:List Int) (i:Nat):l.take (32*(i+1))=l.take (32*i) ++ HSH l i:=by
 unfold HSH;rw [show 32*(i+1)=32*i+32 by omega,List.take_add]
theorem z5p:(Tryz.prog.info? 35).map (·.size)=some 32:=by kernel_rfl
theorem z0v {h:List Int} (hl:h.length=32):(Tryz.prog.info? 35).map (·.size)=some (z00 h).length:=by
 rw [z5p,show (z00 h).length=32 by simp [z00,hl]]
theorem z0W {h:List Int} (hl:h.length=32):(Tryz.prog.info? 35).map (·.size)=some (z00 h).toArray.size:=by
 rw [z5p,show (z00 h).toArray.size=32 by simp [z00,hl]]
theorem z1r (h:List Int):(z00 h).toArray.all (·.oneCell')=true:=by
 rw [Array.all_eq_true_iff_forall_mem];intro v hv;exact z1p h v (by simpa using hv)
theorem Flat.at {w:World} {b o n:Nat} {l:List Int} {i:Nat} (h:Flat w (some ⟨b,o,none⟩) n l) (hi:i<n):w.rangeAt b (o+i*32) (z00 (HSH l i)):=by
 intro j v hv;obtain ⟨b',o',e,_,hc⟩:=h.2.1 (by omega);simp only [Option.some.injEq,Addr.mk.injEq] at e;obtain ⟨rfl,rfl,_⟩:=e
 have hj:j<32:=by
  have:=(List.getElem?_eq_some_iff.1 hv).1;rw [show (z00 (HSH l i)).length=32 by simp [z00,z1x h.1 hi]] at this;exact this
 rw [z0y _ _ (by rw [z1x h.1 hi];exact hj),zdq hj] at hv;rw [show o+i*32+j=o+(32*i+j) by omega,hc _ (by omega)];exact hv
theorem zdr (w:World) {h:List Int} (hl:h.length=32) (hr:∀ x∈h,0<=x/\x<=255) (t:TypeId):Bytes (w.alloc (.cells (z00 h).toArray t)) (some ⟨w.heap.size,0,none⟩) 32 h:=by
 refine ⟨hl,fun _=>⟨w.heap.size,0,rfl,by simp,fun i hi=>?_⟩,hr⟩;rw [Nat.zero_add,World.cell?_alloc_at _ _ _ _ rfl,List.getElem?_toArray,z0y h i (by omega)]
theorem z75 (w:World) (x:Int):(w.alloc (.cells #[.int .u8 x] 5)).ownsRow w.heap.size 5 1 (.slice (some ⟨w.heap.size,0,none⟩) 1 1) 1 (z00 [x]):=
 World.ownsRow_lit w #[.int .u8 x] 1 (Nat.le_refl _) (by simp [maxLen]) rfl
theorem zgt {w:World} {base n:Nat} {v:Value} {l:List Int} (h:w.ownsRow base 5 1 v n (z00 l)):l.length=n:=by
 have:=h.1;simpa [z00] using this
theorem zbQ (k:Int) (X Y:Nat) (hX:X<2 ^ 64) (hY:Y<2 ^ 64) (a:Option Addr) (n c:Nat) (hn:n<=1000) (l:List Int) (w:World) (hF:Flat w a n l):
  Calls Tryz.prog 78 #[.int .u8 k,.int .u64 (X:Int),.int .u64 (Y:Int),.slice a n c] w fun e w'=>∃ v,e=.returned v/\w'.ownsRow w.heap.size 5 1 v (k :: (z15 X ++ z15 Y ++ l)).length (z00 (k :: (z15 X ++ z15 Y ++ l)))/\Below w.heap.size w w':=by
 have c1:=z8G X hX;have c2:=z8G Y hY;have hl1:=z4N X;have hl2:=z4N Y;have h91:=zaB X;have h92:=zaB Y;have hr1:=z5m hX;have hr2:=z5m hY;obtain ⟨L,hL⟩:∃ L,k :: (z15 X ++ z15 Y ++ l)=L:=⟨_,rfl⟩
 rw [hL];obtain ⟨N,hN⟩:∃ N,L.length=N:=⟨_,rfl⟩
 rw [hN];generalize z15 X=SX at *
 generalize z15 Y=SY at *
 have hn1:0<NTOP X+1:=by omega
 have hn2:0<NTOP Y+1:=by omega
 have hm1:NTOP X+1<=10:=by omega
 have hm2:NTOP Y+1<=10:=by omega
 clear h91 h92;generalize NTOP X+1=nx at *
 generalize NTOP Y+1=ny at *
 have HA:Aside (Flat w a n l/\n<=1000/\SX.length=nx/\SY.length=ny/\nx<=10/\ny<=10/\(∀ x∈SX,0<=x/\x<=255)/\(∀ x∈SY,0<=x/\x<=255)):=⟨hF,hn,hl1,hl2,hm1,hm2,hr1,hr2⟩
 have HL:Aside ([k] ++ SX ++ SY ++ l=L/\L.length=N):=⟨by rw [<-hL];simp,hN⟩
 clear hF hn hl1 hl2 hm1 hm2 hr1 hr2 hL hN hX hY;go_enter Tryz.func78,Tryz.ntmps78;go_wp2_with fail
 have R0:Aside ((w.alloc (.cells #[.int .u8 k] 5)).ownsRow w.heap.size 5 1 (.slice (some ⟨w.heap.size,0,none⟩) 1 1) 1 (z00 [k])/\Below w.heap.size w (w.alloc (.cells #[.int .u8 k] 5))):=⟨z75 w k,(Below.refl _ _).alloc (Nat.le_refl _) _⟩
 generalize w.alloc (.cells #[.int .u8 k] 5)=w1 at *
 refine (c1 _).mono ?_;rintro e w2 ⟨g,cap,rfl,hown,hg,hb⟩;clear c1;have R1:Aside (w2.ownsRow w.heap.size 5 1 (.slice (some ⟨w.heap.size,0,none⟩) 1 1) 1 (z00 [k])/\Below w.heap.size w w2/\Bytes w2 (some ⟨g,0,none⟩) nx SX):=⟨z0s R0.out.1 hb,R0.out.2.trans (hb.mono R0.out.2.size),z2A hown hg HA.out.2.2.2.2.2.2.1⟩
 clear hown hg hb R0;go_wp2_with (at_builtin;refine z1m _ rfl (.tmp 14) (.tmp 16) rfl w.heap.size _ 1 [k] rfl R1.out.1 g 0 nx cap SX rfl R1.out.2.2 hn1 (by have:=HA.out.2.2.2.2.1;omega) R1.out.2.1.size ?_;intro g3 cap3 w3 hown hgrow hg)
 have R2:Aside (w3.ownsRow w.heap.size 5 1 (.slice (some ⟨g3,0,none⟩) (1+nx) cap3) (1+nx) (z00 ([k] ++ SX))/\Below w.heap.size w w3):=⟨hown,R1.out.2.1.grown hgrow R1.out.2.1.size (fun k e=>(R1.out.1.lt k e).1)⟩
 clear hown hgrow hg R1;refine (c2 _).mono ?_;rintro e w4 ⟨g4,cap4,rfl,hown,hg,hb⟩;clear c2;have R3:Aside (w4.ownsRow w.heap.size 5 1 (.slice (some ⟨g3,0,none⟩) (1+nx) cap3) (1+nx) (z00 ([k] ++ SX))/\Below w.heap.size w w4/\Bytes w4 (some ⟨g4,0,none⟩) ny SY):=⟨z0s R2.out.1 hb,R2.out.2.trans (hb.mono R2.out.2.size),z2A hown hg HA.out.2.2.2.2.2.2.2⟩
 clear hown hg hb R2;go_wp2_with (at_builtin;refine z1m _ rfl (.tmp 18) (.tmp 20) rfl w.heap.size _ (1+nx) ([k] ++ SX) rfl R3.out.1 g4 0 ny cap4 SY rfl R3.out.2.2 hn2 (by have:=HA.out.2.2.2.2;omega) R3.out.2.1.size ?_;intro g5 cap5 w5 hown hgrow hg)
 have R4:Aside (w5.ownsRow w.heap.size 5 1 (.slice (some ⟨g5,0,none⟩) (1+nx+ny) cap5) (1+nx+ny) (z00 ([k] ++ SX ++ SY))/\Below w.heap.size w w5):=⟨hown,R3.out.2.1.grown hgrow R3.out.2.1.size (fun k e=>(R3.out.1.lt k e).1)⟩
 clear hown hgrow hg R3
 have HP:Aside (1+nx+ny<=21):=by
  obtain ⟨_,_,_,_,h5,h6,_⟩:=HA.out;show 1+nx+ny<=21;omega
 generalize [k] ++ SX ++ SY=PRE at *
 generalize 1+nx+ny=np at *
 go_loopg [9,24] n (fun q s9 s24 wx=>∃ i:Nat,s24=.int .i64 (i:Int)/\Aside (i+q=n/\wx.ownsRow w.heap.size 5 1 s9 (np+32*i) (z00 (PRE ++ l.take (32*i)))/\Below w.heap.size w wx))
 case atStart=>exact ⟨0,rfl,by omega,by simpa using R4.out.1,R4.out.2⟩
 case round=>
  obtain ⟨i,rfl,A⟩:=hrel;clear R4;cases gk with
  | zero=>
    obtain ⟨hi,hown,hbel⟩:=A.out;obtain rfl:i=n:=by omega
    have hlt:¬ (i:Int)<(i:Int):=by omega
    have R:Aside (wr.ownsRow w.heap.size 5 1 u9 N (z00 L)/\Below w.heap.size w wr):=by
     rw [List.take_of_length_le (by have:=HA.out.1.1;omega),HL.out.1] at hown;have:=zgt hown;rw [HL.out.2] at this;rw [<-this] at hown;exact ⟨hown,hbel⟩
    clear hi hown hbel A HA HL HP;go_wp2;go_ret;exact ⟨_,rfl,R.out.1,R.out.2⟩
  | succ q=>
    obtain ⟨hi,hown,hbel⟩:=A.out;obtain ⟨a1,a2,_⟩:=HA.out;have hlt:(i:Int)<(n:Int):=by omega
    obtain ⟨b,o,rfl,hbl,hc⟩:=a1.2.1 (by omega);have hat:=(a1.below hbel).at (show i<n by omega)
    have h32:=z1x a1.1 (show i<n by omega);have hrr:∀ x∈HSH l i,0<=x/\x<=255:=fun x hx=>a1.2.2 x (zgs hx);have hnx:=z5M l i;have e1:wrap64 ((i:Int)+1)=((i+1:Nat):Int):=by unfold wrap64;omega
    have R:Aside (i+1+q=n/\n<=1000/\np<=21/\wr.ownsRow w.heap.size 5 1 u9 (np+32*i) (z00 (PRE ++ l.take (32*i)))/\Below w.heap.size w wr/\(HSH l i).length=32/\(∀ x∈HSH l i,0<=x/\x<=255)/\PRE ++ l.take (32*(i+1))=PRE ++ l.take (32*i) ++ HSH l i):=⟨by omega,a2,HP.out,hown,hbel,h32,hrr,by rw [hnx,List.append_assoc]⟩
    generalize HSH l i=H at *
    clear hi hown hbel a1 a2 hbl hc hrr hnx A HA HL HP
    go_wp2_with (first
     | (refine wpList_load_mid rfl 35 (.tmp 26) rfl b (o+i*32) rfl (z00 H) _ hat Tryz.underlying35 rfl (z0v h32) ?_)
     | (refine wpList_store_row rfl 35 (.tmp 11) (.tmp 27) rfl _ _ rfl rfl 35 _ (Has.new wr _ _) (z0W h32) (by simp [z00,h32]) (z1r H) ?_;rw [World.setRow_alloc_new])
     | (at_builtin;refine z1m _ rfl (.tmp 28) (.tmp 29) rfl w.heap.size u9 (np+32*i) _ rfl (R.out.2.2.2.1.alloc _) wr.heap.size 0 32 32 H rfl (zdr wr R.out.2.2.2.2.2.1 R.out.2.2.2.2.2.2.1 _) (by omega) (by have:=R.out;omega) (by have:=R.out.2.2.2.2.1.size;simp;omega) ?_;intro g6 cap6 w6 hown hgrow hg))
    have R2:Aside (i+1+q=n/\w6.ownsRow w.heap.size 5 1 (.slice (some ⟨g6,0,none⟩) (np+32*i+32) cap6) (np+32*(i+1)) (z00 (PRE ++ l.take (32*(i+1))))/\Below w.heap.size w w6):=by
     obtain ⟨r1,r2,r3,r4,r5,r6,r7,r8⟩:=R.out;refine ⟨r1,?_,(r5.alloc r5.size _).grown hgrow (by have:=r5.size;simp;omega) (fun k e=>(r4.lt k e).1)⟩;rw [r8,show np+32*(i+1)=np+32*i+32 by omega];exact hown
    clear hown hgrow hg R hat h32;go_wp2;go_roundg q
    case measure=>omega
    case rel=>exact ⟨i+1,by first | rfl | (rw [e1]),R2.out⟩
def PLA (i n:Nat):Int × List Nat:=if 4611686018427387904<n then (30,[]) else if n<=i then (32,[]) else (0,PLCS (PSP i n))
def PPA (m n:Nat):Int × List Nat:=if 4611686018427387904<n\/n<m then (30,[]) else (0,PLCS (PXS m n))
theorem zaJ (i n:Nat):(PLA i n).2.length<=188:=by
 unfold PLA;split
 ·simp
 ·split
  ·simp
  ·have:=zgj (i:=i) (n:=n) (by omega) (by omega)
   simp only [z1D];omega
theorem zaK (m n:Nat):(PPA m n).2.length<=188:=by
 unfold PPA;split
 ·simp
 ·have:=zbJ (m:=m) (n:=n) (by omega) (by omega)
  simp only [z1D];omega
theorem z2Z (w:World):w.ownsRow w.heap.size 24 1 (.slice none 0 0) ([]:List Nat).length (z06 []):=World.ownsRow_nil _ _ _ _
theorem z8R (i n:Nat) (w:World) (hT:Tabled w) (h0:0<w.heap.size):Calls Tryz.prog 42 #[.int .u64 (i:Int),.int .u64 (n:Int)] w fun e w'=>
  ∃ v,e=.returned (.tuple #[v,.int .i64 (PLA i n).1])/\w'.ownsRow w.heap.size 24 1 v (PLA i n).2.length (z06 (PLA i n).2)/\Below w.heap.size w w':=by
 unfold PLA;split
 ·refine (z9O _ _ (by omega) w).mono ?_
  rintro e w' ⟨rfl,rfl⟩;exact ⟨_,rfl,z2Z w,Below.refl _ _⟩
 ·split
  ·refine (z8Q _ _ (by omega) (by omega) w).mono ?_
   rintro e w' ⟨rfl,rfl⟩;exact ⟨_,rfl,z2Z w,Below.refl _ _⟩
  ·exact zdp i n (by omega) (by omega) w hT h0
theorem zhl (m n:Nat) (w:World) (hT:Tabled w) (h0:0<w.heap.size):Calls Tryz.prog 46 #[.int .u64 (m:Int),.int .u64 (n:Int)] w fun e w'=>
  ∃ v,e=.returned (.tuple #[v,.int .i64 (PPA m n).1])/\w'.ownsRow w.heap.size 24 1 v (PPA m n).2.length (z06 (PPA m n).2)/\Below w.heap.size w w':=by
 unfold PPA;split
 ·refine (z5L _ _ (by omega) w).mono ?_
  rintro e w' ⟨rfl,rfl⟩;exact ⟨_,rfl,z2Z w,Below.refl _ _⟩
 ·exact z6s m n (by omega) (by omega) w hT h0
def ENCB (k E:Int) (P n X Y:Nat) (l:List Int):Int × List Int:=if E≠0 then (E,[]) else if n≠P then (70,[]) else (0,k :: (z15 X ++ z15 Y ++ l))
def ENC (S I n:Nat) (l:List Int):Int × List Int:=ENCB 77 (PLA I S).1 (PLA I S).2.length n S I l
theorem z6t (w:World) (b:Nat):w.ownsRow b 5 1 (.slice none 0 0) ([]:List Int).length (z00 []):=World.ownsRow_nil _ _ _ _
def ANSB (w:World) (A:Int × List Int) (e:Ending) (w':World):Prop:=∃ v,e=.returned (.tuple #[v,.int .i64 A.1])/\w'.ownsRow w.heap.size 5 1 v A.2.length (z00 A.2)/\Below w.heap.size w w'
theorem zbR (X Y E:Int) (a:Option Addr) (n c np:Nat) (P:List Nat) (L:List Int) (hnp:P.length=np) (w:World)
  (C1:Aside (∀ W,Below w.heap.size w W->Calls Tryz.prog 42 #[.int .u64 Y,.int .u64 X] W fun e w'=>∃ v,e=.returned (.tuple #[v,.int .i64 E])/\w'.ownsRow W.heap.size 24 1 v np (z06 P)/\Below W.heap.size W w'))
  (C2:Aside (∀ W,Below w.heap.size w W->Calls Tryz.prog 78 #[.int .u8 77,.int .u64 X,.int .u64 Y,.slice a n c] W fun e w'=>∃ v,e=.returned v/\w'.ownsRow W.heap.size 5 1 v L.length (z00 L)/\Below W.heap.size W w')):
  Calls Tryz.prog 47 #[.agg #[.int .u64 X,.int .u64 Y,.slice a n c]] w (ANSB w (if E≠0 then (E,[]) else if n≠np then (70,[]) else (0,L))):=by
 obtain ⟨A,hA⟩:∃ A,(if E≠0 then (E,[]) else if n≠np then (70,[]) else (0,L))=A:=⟨_,rfl⟩
 rw [hA];have HA:Aside ((if E≠0 then (E,[]) else if n≠np then (70,[]) else (0,L))=A):=hA;clear hA;obtain ⟨nl,hnl⟩:∃ nl,L.length=nl:=⟨_,rfl⟩
 rw [hnl] at C2;have HN:Aside (L.length=nl):=hnl;have HP:Aside (P.length=np):=hnp;clear hnl hnp;go_enter Tryz.func47,Tryz.ntmps47;go_wp2_with fail
 have hH:=Has.new w #[.int .u64 X,.int .u64 Y,.slice a n c] 45;have hB:Aside (Below w.heap.size w (w.alloc (.cells #[.int .u64 X,.int .u64 Y,.slice a n c] 45))):=(Below.refl _ _).alloc (Nat.le_refl _) _;refine (C1.out _ hB.out).mono ?_;rintro e w1 ⟨v,rfl,hrow,hb⟩;have hH:=hH.keep hb;have hz0:w1.cell? ⟨w.heap.size,0,none⟩=some (.int .u64 X):=hH.cell 0;have hz1:w1.cell? ⟨w.heap.size,1,none⟩=some (.int .u64 Y):=hH.cell 1;have hz2:w1.cell? ⟨w.heap.size,2,none⟩=some (.slice a n c):=hH.cell 2;have R:Aside (Below w.heap.size w w1):=hB.out.trans (hb.mono hB.out.size);obtain ⟨av,cv,rfl,_⟩:=z4P hrow;clear hrow hb hH hB C1;by_cases hE:E=0
 ·subst hE
  by_cases hn:n=np
  ·subst hn
   go_wp2_with fail
   refine (C2.out _ R.out).mono ?_;rintro e w2 ⟨v,rfl,hrow,hb⟩;have R2:Aside (w2.ownsRow w.heap.size 5 1 v nl (z00 L)/\Below w.heap.size w w2):=⟨z0P hrow R.out.size,R.out.trans (hb.mono R.out.size)⟩
   clear hrow hb C2 hz0 hz1 hz2 R;go_wp2;go_ret2;have e:(0,L)=A:=by have:=HA.out;simpa using this
   rw [<-e];refine ⟨v,rfl,?_,R2.out.2⟩;show w2.ownsRow w.heap.size 5 1 v L.length (z00 L);rw [HN.out];exact R2.out.1
  ·have hne:¬ (n:Int)=(np:Int):=by omega
   have HE:Aside (¬ n=np):=hn;clear C2 hn;go_wp2;go_ret2;have e:(70,[])=A:=by have:=HA.out;simpa [HE.out] using this
   rw [<-e];exact ⟨_,rfl,z6t _ _,R.out⟩
 ·have HE:Aside (¬ E=0):=hE
  have hne:((E:Int) != 0)=true:=by simp [hE]
  clear C2 hE;go_wp2;go_ret2;have e:(E,[])=A:=by have:=HA.out;simpa [HE.out] using this
  rw [<-e];exact ⟨_,rfl,z6t _ _,R.out⟩
theorem zds (X Y:Nat) (hX:X<2 ^ 64) (hY:Y<2 ^ 64) (a:Option Addr) (n c:Nat) (hn:n<=1000) (l:List Int) (w:World) (hF:Flat w a n l) (hT:Tabled w) (h0:0<w.heap.size):
  Calls Tryz.prog 47 #[.agg #[.int .u64 (X:Int),.int .u64 (Y:Int),.slice a n c]] w fun e w'=>
  ∃ v,e=.returned (.tuple #[v,.int .i64 (ENC X Y n l).1])/\w'.ownsRow w.heap.size 5 1 v (ENC X Y n l).2.length (z00 (ENC X Y n l).2)/\Below w.heap.size w w':=by
 refine (zbR X Y (PLA Y X).1 a n c _ (PLA Y X).2 (77 :: (z15 X ++ z15 Y ++ l)) rfl w (fun W h=>z8R Y X W (hT.below h0 h) (Nat.lt_of_lt_of_le h0 h.size)) (fun W h=>zbQ 77 X Y hX hY a n c hn l W (hF.below h))).mono ?_;rintro e w' h;exact h
theorem zdt:PLA 1 7=(0,[0,5,9,10]):=by decide
theorem zdu:ENC 1 0 0 []=(0,[77,1,0]):=by decide
theorem zbS {w:World} {base:Nat} {v:Value} {l:List Nat} (h:w.ownsRow base 24 1 v l.length (z06 l)) (h0:0<l.length):∃ g c,v=.slice (some ⟨g,0,none⟩) l.length c/\g<w.heap.size/\∀ j,j<l.length->w.cell? ⟨g,j,none⟩=some (.int .u64 ((l.getD j 0:Nat):Int)):=by
 obtain ⟨a,c,e,hh⟩:=z8P h;obtain ⟨g,rfl,hg,hc⟩:=hh h0;exact ⟨g,c,e,hg,hc⟩
theorem z7S (w:World) (hT:Tabled w) (h0:0<w.heap.size):Calls Tryz.prog 19 #[] w fun e w'=>e=.returned (.bool true)/\Below w.heap.size w w':=by
 have c1:=z8R 1 7 w hT h0;rw [zdt] at c1
 have C2:Aside (∀ W,Below w.heap.size w W->Calls Tryz.prog 47 #[.agg #[.int .u64 1,.int .u64 0,.slice none 0 0]] W fun e w'=>∃ v,e=.returned (.tuple #[v,.int .i64 0])/\w'.ownsRow W.heap.size 5 1 v 3 (z00 [77,1,0])/\Below W.heap.size W w'):=fun W h=>by
  have:=zds 1 0 (by decide) (by decide) none 0 0 (by decide) [] W ⟨rfl,fun h=>absurd h (by decide),by simp⟩ (hT.below h0 h) (Nat.lt_of_lt_of_le h0 h.size);rw [zdu] at this;exact this
 clear hT h0;go_enter Tryz.func19,Tryz.ntmps19;go_wp2_with fail
 refine c1.mono ?_;rintro e w1 ⟨v,rfl,hrow,hb⟩;clear c1;obtain ⟨g,cg,rfl,hg,hc⟩:=zbS hrow (by decide);go_wp2_with fail
 refine (C2.out _ hb).mono ?_;rintro e w2 ⟨v,rfl,hown,hb2⟩;have hbb:Aside (Below w.heap.size w w2):=hb.trans (hb2.mono hb.size);have k0:w2.cell? ⟨g,0,none⟩=some (.int .u64 0):=(hb2.cell (p:=⟨g,0,none⟩) hg).trans (hc 0 (by decide));have k1:w2.cell? ⟨g,1,none⟩=some (.int .u64 5):=(hb2.cell (p:=⟨g,1,none⟩) hg).trans (hc 1 (by decide));have k2:w2.cell? ⟨g,2,none⟩=some (.int .u64 9):=(hb2.cell (p:=⟨g,2,none⟩) hg).trans (hc 2 (by decide))
 have hbx:∃ g' c',v=.slice (some ⟨g',0,none⟩) 3 c'/\w2.cell? ⟨g',0,none⟩=some (.int .u8 77)/\w2.cell? ⟨g',1,none⟩=some (.int .u8 1):=by
  rcases hown.2 with ⟨_,h⟩ | ⟨g',c',cur,rfl,_⟩
  ·exact absurd h (by decide)
  ·exact ⟨g',c',rfl,hown.cellAt 0 (by decide),hown.cellAt 1 (by decide)⟩
 obtain ⟨g',c',rfl,k3,k4⟩:=hbx;clear hown hb2 hb hc hg hrow C2;go_wp2;go_ret;exact ⟨rfl,hbb.out⟩
end Go.Proofs.YthmnailmbgondaaGreatDoor
namespace Go.Proofs.YthmnailmbgondaaGreatDoor
open Go.RowKit
theorem z8S (a b:Nat) (h:b<=a\/4611686018427387904<b) (w:World):Calls Tryz.prog 44 #[.int .u64 (a:Int),.int .u64 (b:Int)] w fun e w'=>e=.returned (.slice none 0 0)/\w=w':=by
 have hg1:b<=a\/(¬ b<=a/\(4611686018427387904:Int)<(b:Int)):=by
  by_cases c:b<=a
  ·exact .inl c
  ·exact .inr ⟨c,by omega⟩
 clear h;rcases hg1 with hg1 | ⟨hg1,hg2⟩
 all_goals
  go_enter Tryz.func44,Tryz.ntmps44;go_wp2;go_ret;exact ⟨rfl,rfl⟩
theorem zbT (h:Nat) (hh:h<62):wrap64 ((h+1:Nat):Int)=((h+1:Nat):Int):=by unfold wrap64;omega
theorem zf8 (h:Nat) (hh:h<=62):wrap64 ((h:Int)+1)=((h+1:Nat):Int):=by unfold wrap64;omega
theorem zbU (a b:Nat) (hab:a<b) (hb:b<=4611686018427387904) (w:World):Calls Tryz.prog 44 #[.int .u64 (a:Int),.int .u64 (b:Int)] w fun e w'=>
    ∃ v,e=.returned v/\w'.ownsRow w.heap.size 101 2 v (SPAN a b).length (z0k (SPAN a b))/\Below w.heap.size w w':=by
  have HB:Aside (b<=4611686018427387904):=hb;have hg1:¬ b<=a:=by omega
  have hg2:¬ (4611686018427387904:Int)<(b:Int):=by omega
  go_enter Tryz.func44,Tryz.ntmps44;go_wp2;clear hg1 hg2;go_loopg [0,5] (b - a) (fun g s0 s5 wx=>∃ (c:Nat) (pre:List (Nat × Nat)),s0=.int .u64 (c:Int)/\Aside (g=b - c/\c<=b/\pre ++ SPAN c b=SPAN a b/\wx.ownsRow w.heap.size 101 2 s5 pre.length (z0k pre)/\Below w.heap.size w wx))
  case atStart=>exact ⟨a,[],rfl,rfl,Nat.le_of_lt hab,rfl,World.ownsRow_nil _ _ _ _,Below.refl _ _⟩
  case round=>
    obtain ⟨c,pre,rfl,A⟩:=hrel;obtain ⟨hg,hc,hp,hown,hbel⟩:=A.out;by_cases hlt:c<b
    · have hlt' : (c:Int)<(b:Int):=by omega
      obtain ⟨s1,s2,s3⟩:=z2Y hlt hb;have hsp:=z1Q hlt;have hpos:=Nat.two_pow_pos (HT c b)
      have hpl:pre.length<=1000:=by
        have:=congrArg List.length hp;have:=z1Y (a:=a) hb;rw [List.length_append] at *
        omega
      obtain ⟨HH,hHH⟩:∃ HH,HT c b=HH:=⟨_,rfl⟩
      rw [hHH] at s1 s2 s3 hsp hpos;have R:Aside (gk=b - c/\c<=b/\pre ++ SPAN c b=SPAN a b/\wr.ownsRow w.heap.size 101 2 u5 pre.length (z0k pre)/\Below w.heap.size w wr/\HH<=62/\Fit c HH b/\¬ Fit c (HH+1) b/\0<2 ^ HH/\pre.length<=1000/\SPAN c b=(HH,c / 2 ^ HH) :: SPAN (c+2 ^ HH) b):=⟨hg,hc,hp,hown,hbel,s1,s2,s3,hpos,hpl,hsp⟩
      clear s1 s2 s3 hsp hpos hpl hg hc hp hown hbel A hHH hlt;go_wp2;go_loopg [6] HH (fun g s6 wx=>∃ h:Nat,s6=.int .i64 (h:Int)/\h+g=HH/\wx=wr)
      case atStart=>exact ⟨0,rfl,by omega,rfl⟩
      case round=>
        obtain ⟨h,rfl,hh,rfl⟩:=hrel;obtain ⟨q1,q2,q3,q4,q5,q6,q7,q8,q9,q10,q11⟩:=R.out;obtain ⟨d,hd⟩:∃ d,b - c=d:=⟨_,rfl⟩
        have HES:Aside (IntKind.u64.wrap ((b:Int) - (c:Int))=(d:Int)):=by
          show IntKind.u64.wrap ((b:Int) - (c:Int))=(d:Int)
          rw [z0b];omega
        have hz0:(0:Int)<=(h:Int):=Int.natCast_nonneg h;have cp0:=z0V h (by omega);obtain ⟨P0,hP0⟩:∃ P0,2 ^ h=P0:=⟨_,rfl⟩
        rw [hP0] at cp0;cases gk with
        | zero=>
          obtain rfl:h=HH:=by omega
          have hP0p:0<P0:=by rw [<-hP0];exact q9
          have hP0n:¬ P0=0:=Nat.ne_of_gt hP0p;have hP0i:¬ (P0:Int)=0:=fun e=>hP0n (Int.ofNat.inj e);have hP0':((P0:Int) == 0)=false:=by simp;exact hP0n
          obtain ⟨K,hK⟩:∃ K,c / P0=K:=⟨_,rfl⟩
          have hq1:(c:Int) / (P0:Int)=(K:Int):=by rw [<-Int.natCast_ediv,hK]
          have hq2:(c:Int).tdiv (P0:Int)=(K:Int):=by rw [Int.tdiv_eq_ediv_of_nonneg (Int.natCast_nonneg c)];exact hq1
          have hKc:K<=c:=by rw [<-hK];exact Nat.div_le_self _ _
          have hb62:=HB.out;have hf2:=q7.2;rw [hP0] at hf2 q11 q9;rw [hK] at q11;obtain ⟨c',hc'⟩:∃ c',c+P0=c':=⟨_,rfl⟩
          rw [hc'] at q11 hf2;have hc2:c'<2 ^ 64:=by omega
          have e8:(h:Int) % 256=(h:Int):=by omega
          have HQ:Aside (IntKind.u64.wrap (K:Int)=(K:Int)/\IntKind.u64.wrap ((c:Int)+(P0:Int))=(c':Int)):=⟨by rw [z0b];omega,by rw [z0b];omega⟩
          have U:Aside (gk=b - c/\c'<=b/\b - c'<gk/\(pre ++ [(h,K)]) ++ SPAN c' b=SPAN a b):=⟨q1,hf2,by omega,by rw [<-q3,q11];simp⟩
          have hcase:(¬ (h:Int)<62)\/((h:Int)<62/\∃ (h1 P1 r:Nat),(h:Int)+1=(h1:Int)/\Aside (wrap64 (h1:Int)=(h1:Int))/\¬ P1=0/\¬ (P1:Int)=0/\((P1:Int) == 0)=false/\(∀ w,Calls Tryz.prog 71 #[.int .i64 (h1:Int)] w fun e w'=>e=.returned (.int .u64 (P1:Int))/\w=w')/\(c:Int) % (P1:Int)=(r:Int)/\(c:Int).tmod (P1:Int)=(r:Int)/\(((r:Int) == 0)=false/\¬ r=0\/r=0/\¬ P1<=d/\¬ (P1:Int)<=(d:Int)/\¬ (P1:Int)<=(b:Int) - (c:Int))):=by
            by_cases h62:(h:Int)<62
            · right
              have hpp:=Nat.two_pow_pos (h+1);have e1:(c:Int) % ((2 ^ (h+1):Nat):Int)=((c % 2 ^ (h+1):Nat):Int):=(Int.natCast_emod _ _).symm;refine ⟨h62,h+1,2 ^ (h+1),c % 2 ^ (h+1),rfl,zbT h (by omega),Nat.ne_of_gt hpp,fun e=>Nat.ne_of_gt hpp (Int.ofNat.inj e),?_,z0V (h+1) (by omega),e1,by rw [Int.tmod_eq_emod_of_nonneg (Int.natCast_nonneg c)];exact e1,?_⟩
              · rw [beq_eq_false_iff_ne]
                exact fun e=>Nat.ne_of_gt hpp (Int.ofNat.inj e)
              · by_cases hm:c % 2 ^ (h+1)=0
                · right
                  have hn:¬ 2 ^ (h+1)<=d:=fun hle=>q8 ⟨hm,by omega⟩;exact ⟨hm,hn,fun e=>hn (Int.ofNat_le.1 e),by omega⟩
                · left
                  refine ⟨?_,hm⟩;rw [beq_eq_false_iff_ne];exact fun e=>hm (Int.ofNat.inj e)
            · exact .inl h62
          clear q1 q2 q3 q6 q7 q8 q9 q11 hP0p hK hKc hb62 hf2 hc2 hd hh hP0 hc';rcases hcase with h62 | ⟨h62,h1,P1,r,hh1',HH2,hp1,hp2,hp3,cp1,hr1,hr2,hh3⟩
          · clear q4 q5 q10
            have hq3:=HQ.out.1;have hq4:=HQ.out.2;go_wp2_with fail
            refine (cp0 _).mono ?_;rintro e w' ⟨rfl,rfl⟩;go_wp2_with (at_builtin;refine z3c _ rfl (.tmp 39) (.tmp 47) rfl w.heap.size u5 pre.length pre rfl (R.out.2.2.2.1.alloc _) _ 1 h K rfl ((Has.at _ _ _ (by simp)).cell 0) ((Has.at _ _ _ (by simp)).cell 1) R.out.2.2.2.2.2.2.2.2.2.1 (Nat.le_trans R.out.2.2.2.2.1.size (by simp)) ?_;intro g' cap w1 hown hgrow hg)
            refine (cp0 _).mono ?_;rintro e w' ⟨rfl,rfl⟩;clear hq3;go_wp2;go_roundg (b - c')
            case measure=>exact U.out.2.2.1
            case rel=>
              obtain ⟨u1,u2,u3,u4⟩:=U.out;have r5:=R.out.2.2.2.2.1;exact ⟨c',pre ++ [(h,K)],rfl,rfl,u2,u4,by rw [List.length_append];exact hown,(r5.alloc r5.size _).grown hgrow (Nat.le_trans r5.size (by simp)) (fun k e=>(R.out.2.2.2.1.lt k e).1)⟩
          · have hh2':=HH2.out
            clear q4 q5 q10;rcases hh3 with ⟨hr3,hr4⟩ | ⟨rfl,hd1,hd2,hd3⟩
            · have hr5:¬ (c:Int).tmod (P1:Int)=0:=fun e=>hr4 (Int.ofNat.inj (hr2.symm.trans e))
              have hr6:¬ (c:Int) % (P1:Int)=0:=fun e=>hr4 (Int.ofNat.inj (hr1.symm.trans e));clear hr1 hr2 hr3 hr4;go_wp2_with fail
              refine (cp1 _).mono ?_;rintro e w' ⟨rfl,rfl⟩;clear hh2' hh1';have hq3:=HQ.out.1;have hq4:=HQ.out.2;go_wp2_with fail
              refine (cp0 _).mono ?_;rintro e w' ⟨rfl,rfl⟩;go_wp2_with (at_builtin;refine z3c _ rfl (.tmp 39) (.tmp 47) rfl w.heap.size u5 pre.length pre rfl (R.out.2.2.2.1.alloc _) _ 1 h K rfl ((Has.at _ _ _ (by simp)).cell 0) ((Has.at _ _ _ (by simp)).cell 1) R.out.2.2.2.2.2.2.2.2.2.1 (Nat.le_trans R.out.2.2.2.2.1.size (by simp)) ?_;intro g' cap w1 hown hgrow hg)
              refine (cp0 _).mono ?_;rintro e w' ⟨rfl,rfl⟩;clear hq3;go_wp2;go_roundg (b - c')
              case measure=>exact U.out.2.2.1
              case rel=>
                obtain ⟨u1,u2,u3,u4⟩:=U.out;have r5:=R.out.2.2.2.2.1;exact ⟨c',pre ++ [(h,K)],rfl,rfl,u2,u4,by rw [List.length_append];exact hown,(r5.alloc r5.size _).grown hgrow (Nat.le_trans r5.size (by simp)) (fun k e=>(R.out.2.2.2.1.lt k e).1)⟩
            · have hes:=HES.out
              go_wp2_with fail
              refine (cp1 _).mono ?_;rintro e w' ⟨rfl,rfl⟩;go_wp2_with fail
              refine (cp1 _).mono ?_;rintro e w' ⟨rfl,rfl⟩;clear hh2' hh1' hes;have hq3:=HQ.out.1;have hq4:=HQ.out.2;go_wp2_with fail
              refine (cp0 _).mono ?_;rintro e w' ⟨rfl,rfl⟩;go_wp2_with (at_builtin;refine z3c _ rfl (.tmp 39) (.tmp 47) rfl w.heap.size u5 pre.length pre rfl (R.out.2.2.2.1.alloc _) _ 1 h K rfl ((Has.at _ _ _ (by simp)).cell 0) ((Has.at _ _ _ (by simp)).cell 1) R.out.2.2.2.2.2.2.2.2.2.1 (Nat.le_trans R.out.2.2.2.2.1.size (by simp)) ?_;intro g' cap w1 hown hgrow hg)
              refine (cp0 _).mono ?_;rintro e w' ⟨rfl,rfl⟩;clear hq3;go_wp2;go_roundg (b - c')
              case measure=>exact U.out.2.2.1
              case rel=>
                obtain ⟨u1,u2,u3,u4⟩:=U.out;have r5:=R.out.2.2.2.2.1;exact ⟨c',pre ++ [(h,K)],rfl,rfl,u2,u4,by rw [List.length_append];exact hown,(r5.alloc r5.size _).grown hgrow (Nat.le_trans r5.size (by simp)) (fun k e=>(R.out.2.2.2.1.lt k e).1)⟩
        | succ g=>
          have h62:(h:Int)<62:=by omega
          have hf:=q7.le (h+1) (by omega);have cp1:=z0V (h+1) (by omega);have HW:Aside (wrap64 ((h:Int)+1)=((h+1:Nat):Int)):=zf8 h (by omega);obtain ⟨P1,hP1⟩:∃ P1,2 ^ (h+1)=P1:=⟨_,rfl⟩
          obtain ⟨h1,hh1⟩:∃ h1,h+1=h1:=⟨_,rfl⟩
          have hf1:=hf.1;have hf2:=hf.2;rw [hP1] at hf1 hf2 cp1;rw [hh1] at cp1 HW;have hP1p:0<P1:=by rw [<-hP1];exact Nat.two_pow_pos _
          have hr1:(c:Int) % (P1:Int)=0:=by rw [<-Int.natCast_emod,hf1];rfl
          clear hf1;have hr2:(c:Int).tmod (P1:Int)=0:=by rw [Int.tmod_eq_emod_of_nonneg (Int.natCast_nonneg c)];exact hr1
          have hP0n:¬ P1=0:=Nat.ne_of_gt hP1p;have hP0i:¬ (P1:Int)=0:=fun e=>hP0n (Int.ofNat.inj e);have hP0':((P1:Int) == 0)=false:=by simp;exact hP0n
          have hle:P1<=d:=Nat.le_of_add_le_add_left (a:=c) (by rw [<-hd,Nat.add_sub_cancel' q2];exact hf2);have hle':(P1:Int)<=(d:Int):=Int.ofNat_le.2 hle;have hh1':(h:Int)+1=(h1:Int):=by rw [<-hh1];rfl
          have hh2':wrap64 (h1:Int)=(h1:Int):=by have:=HW.out;rw [hh1'] at this;exact this
          have V:Aside (h1+g=HH):=by rw [<-hh,<-hh1,Nat.add_assoc,Nat.add_comm 1 g];rfl
          clear q1 q2 q3 q4 q5 q6 q7 q8 q9 q10 q11 hf hf2 hP1 hh1 hP1p hd hh hP0 cp0;have hes:=HES.out;go_wp2_with fail
          refine (cp1 _).mono ?_;rintro e w' ⟨rfl,rfl⟩;go_wp2_with fail
          refine (cp1 _).mono ?_;rintro e w' ⟨rfl,rfl⟩;go_wp2;go_roundg g
          case measure=>exact Nat.lt_succ_self _
          case rel=>exact ⟨h1,rfl,V.out,rfl⟩
    · have hlt':¬ (c:Int)<(b:Int):=by omega
      rw [z1i (a:=c) (by omega),List.append_nil] at hp;have R:Aside (wr.ownsRow w.heap.size 101 2 u5 (SPAN a b).length (z0k (SPAN a b))/\Below w.heap.size w wr):=⟨by rw [<-hp];exact hown,hbel⟩
      clear hg hc hp hown hbel A;go_wp2;go_ret;exact ⟨u5,rfl,R.out.1,R.out.2⟩
end Go.Proofs.YthmnailmbgondaaGreatDoor
