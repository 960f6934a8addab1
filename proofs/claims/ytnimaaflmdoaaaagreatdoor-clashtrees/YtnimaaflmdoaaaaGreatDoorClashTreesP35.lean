/- ClashTrees: part 35. -/
import Derived.Test.YtnimaaflmdoaaaaGreatDoorRows
import Derived.ProofKit
import Derived.LaidMore
import Derived.Stop.Joined
import Derived.Test.YtnimaaflmdoaaaaGreatDoorClashTreesP23
import Derived.Test.YtnimaaflmdoaaaaGreatDoorClashTreesP24
import Derived.Test.YtnimaaflmdoaaaaGreatDoorClashTreesP34
namespace Go.Proofs.YtnimaaflmdoaaaaGreatDoor
open Go.RowKit
set_option maxRecDepth 100000
def z2g (hs:Nat->Nat->Nat):Nat->Nat->Nat:=fun k i=>if i<32 then hs k i else 0
theorem zcm (hs:Nat->Nat->Nat) (k:Nat):HX.z01 .u8 32 (z2g hs k)=HX.z01 .u8 32 (hs k):=by
 unfold HX.z01 z2g;exact List.map_congr_left fun i hi=>by rw [if_pos (by simpa using hi)]
theorem z9j {hs:Nat->Nat->Nat} {n:Nat} (h:∀ i,i<n->∀ j,hs i j<256):∀ i,i<n->∀ j,z2g hs i j<256:=fun i hi j=>by
 unfold z2g;split
 ·exact h i hi j
 ·decide
theorem zfH {hs ms:Nat->Nat->Nat} {k k':Nat} (h:LST (z2g hs k)=LST (z2g ms k')):z2g hs k=z2g ms k':=by
 funext i;by_cases hi:i<32
 ·have:=congrArg (fun l=>l[i]?) h
  simp [LST,hi] at this;exact Int.ofNat_inj.1 this
 ·simp [z2g,hi]
theorem z2B (f:Nat->Nat):HX.z01 .u8 32 f=z00 (LST f):=by
 have h:=congrArg Array.toList (z0Z f);rw [HX.z0G] at h;simpa using h
structure TWOT (w wx:World) (Bb ga gb:Nat) (d:Int) (n:Nat) (Ca Cb:HX.z04) (f f':Nat->Nat->Nat):Prop where
 fa:HX.FOREST wx w.heap.size ga d 3 n Ca f
 fb:HX.FOREST wx Bb gb d 3 n Cb f'
 ap:HX.APART wx ga Ca gb Cb
 bel:Below w.heap.size w wx
 sz:Bb<=wx.heap.size
 lo:w.heap.size<=Bb
theorem TWOT.keep {w wx w':World} {Bb ga gb:Nat} {d:Int} {n:Nat} {Ca Cb:HX.z04} {f f':Nat->Nat->Nat} (h:TWOT w wx Bb ga gb d n Ca Cb f f') (hb:Below wx.heap.size wx w'):TWOT w w' Bb ga gb d n Ca Cb f f':=
 ⟨h.fa.below hb,h.fb.below hb,h.ap.below h.fa h.fb hb,h.bel.trans (hb.mono h.bel.size),Nat.le_trans h.sz hb.size,h.lo⟩
theorem z5v {w:World} {B g:Nat} {d:Int} {log n:Nat} {C:HX.z04} {f:Nat->Nat->Nat} (h:HX.FOREST w B g d log (n+1) C (HX.z0E f n (f n))):HX.FOREST w B g d log (n+1) C f:=h.congr fun x hx=>by
 unfold HX.z0E;split
 ·rename_i e;rw [e]
 ·rfl
theorem z9k {n:Nat} (h:n<2 ^ 40):IntKind.u64.wrap (n:Int)=(n:Int):=by
 simp [IntKind.wrap,IntKind.signed,IntKind.bits];omega
theorem z6w {w:World} {base:Nat} {t:TypeId} {s:Nat} {v:Value} {n:Nat} {xs:List Value} (h:w.ownsRow base t s v n xs):∃ ad cap,v=.slice ad n cap/\n<=cap:=by
 rcases h.2 with ⟨rfl,h0⟩ | ⟨g,cap,cur,rfl,hb,hg,hc,r⟩
 ·exact ⟨none,0,by rw [h0],by omega⟩
 ·exact ⟨_,cap,rfl,hc⟩
theorem OWNT.ne7 {w:World} {base g c b:Nat} {t:List Nat} {C:Array Value} (h:OWNT w base g c t) (hz:Has w b C 30):g≠b:=by
 rintro rfl;rcases h.1.2 with ⟨e,_⟩ | ⟨g2,cap,cur,e,_,e3,_⟩
 ·cases e
 ·cases e
  have e4:=e3.symm.trans (show w.heap[_]?=_ from hz);simp at e4
theorem TOLD1.set7 {w:World} {B9 b:Nat} {X:Option (List Nat × List Nat)} {C0 C1:Value} {o1:Bool} {C:Array Value} (h:TOLD1 w B9 X C0 C1 o1) (hz:Has w b C 30) (u v:Value):TOLD1 ((w.setCell ⟨b,0,none⟩ u).setCell ⟨b,1,none⟩ v) B9 X C0 C1 o1:=by
 refine ⟨h.1,fun s t e=>?_⟩;obtain ⟨e1,gA,cA,gB,cB,q1,q2,r1,r2,r5⟩:=h.2 s t e;have k:∀ g,g≠b->((w.setCell ⟨b,0,none⟩ u).setCell ⟨b,1,none⟩ v).heap[g]?=w.heap[g]?:=fun g hg=>(Below.heap_setCell _ _ _ g hg).trans (Below.heap_setCell _ _ _ g hg);exact ⟨e1,gA,cA,gB,cB,q1,q2,r1.at (k _ (r1.ne7 hz)),r2.at (k _ (r2.ne7 hz)),r5⟩
theorem zaT {n i:Nat} {l:List Int} {k:Nat} (hl:l.length=32*k) (hk:k<=188):(PRB n i l).length<=9600:=by
 have h1:=z3Q n;have h2:=z3Q i;simp only [PRB,List.length_cons,List.length_append,z0R];omega
theorem zcn {d:Int} {hs ms:Nat->Nat->Nat} {i n:Nat} (hi:i<n) (hn:n<=100) (h8:∀ i,i<n->∀ j,hs i j<256) (h9:∀ i,i<n->∀ j,ms i j<256) (hne:LST (hs i)≠LST (ms i)) (hre:LST (HX.z0l d hs n)=LST (HX.z0l d ms n)) (rA:∀ z∈PRB n i (CAT (TVAL d hs) (PSP i n)),0<=z/\z<=255) (rB:∀ z∈PRB n i (CAT (TVAL d ms) (PSP i n)),0<=z/\z<=255):∃ s u,CLMB d (LST (HX.z0l d hs n)) n i (LST (hs i)) (PRB n i (CAT (TVAL d hs) (PSP i n))) (LST (ms i)) (PRB n i (CAT (TVAL d ms) (PSP i n)))=some (s,u)/\s≠u/\HSHT d s=HSHT d u:=by
 have m1:MEMA d (LST (HX.z0l d hs n)) n i (LST (hs i)) (PRB n i (CAT (TVAL d hs) (PSP i n)))=0:=z7N d hs hi (by omega);have m2:MEMA d (LST (HX.z0l d hs n)) n i (LST (ms i)) (PRB n i (CAT (TVAL d ms) (PSP i n)))=0:=by rw [hre];exact z7N d ms hi (by omega)
 obtain ⟨_,p1,_⟩:=z2p rA (show n<2 ^ 64 by omega) (show i<2 ^ 64 by omega) m1;obtain ⟨_,r1,_⟩:=z2p rB (show n<2 ^ 64 by omega) (show i<2 ^ 64 by omega) m2;obtain ⟨t,t',s,u,hm⟩:=z7D (by omega) (by omega) (z25 fun j=>h8 i hi j) (z25 fun j=>h9 i hi j) rA rB (z3B rA (by rw [p1])) (z3B rB (by rw [r1])) ⟨hne,m1,m2⟩;exact ⟨s,u,hm.told,zc3 hm.told⟩
theorem zco (d:Int) (a:Option Addr) (n c:Nat) (b:Option Addr) (m c2:Nat) (w:World) (hn:(100:Int)<(n:Int)):Calls Tryz.prog 6 #[.int .i64 d,.slice a n c,.slice b m c2] w fun e w'=>e=.returned (.bool true)/\Below w.heap.size w w':=by
 go_enter Tryz.func6,Tryz.ntmps6;go_wp2;go_ret;exact ⟨rfl,Below.refl _ _⟩
theorem za2 (d:Int) (a:Option Addr) (n c:Nat) (b:Option Addr) (m c2:Nat) (w:World) (hn:¬ (100:Int)<(n:Int)) (hm:¬ n=m):Calls Tryz.prog 6 #[.int .i64 d,.slice a n c,.slice b m c2] w fun e w'=>e=.returned (.bool true)/\Below w.heap.size w w':=by
 have h1:((n:Int) == (m:Int))=false:=beq_eq_false_iff_ne.2 (by omega);go_enter Tryz.func6,Tryz.ntmps6;go_wp2;go_ret;exact ⟨rfl,Below.refl _ _⟩
def z4B (hs ms:Nat->Nat->Nat) (j:Nat) (t:Int):Prop:=(t = -1/\∀ k,k<j->hs k=ms k)\/∃ i:Nat,t=(i:Int)/\i<j/\LST (hs i)≠LST (ms i)
set_option maxHeartbeats 8000000 in
theorem zcp (d:Int) (a:Option Addr) (n c:Nat) (b:Option Addr) (c2:Nat) (hs ms:Nat->Nat->Nat) (w:World) (hn:¬ (100:Int)<(n:Int)) (hH:HX.HASHES w a n hs) (hM:HX.HASHES w b n ms) (h8:∀ i,i<n->∀ j,hs i j<256) (h9:∀ i,i<n->∀ j,ms i j<256) (hE:∀ i,i<n->LST (hs i)=LST (ms i)->hs i=ms i) (hT:Tabled w) (hX:HX.Tabled w) (h0:2<w.heap.size):Calls Tryz.prog 6 #[.int .i64 d,.slice a n c,.slice b n c2] w fun e w'=>e=.returned (.bool true)/\Below w.heap.size w w':=by
  have hnn:((n:Int) == (n:Int))=true:=beq_self_eq_true _;have cn:=HX.z6t d 3 (by decide) w
  have HT:Aside (∀ W,Below w.heap.size w W->Tabled W/\HX.Tabled W/\0<W.heap.size/\2<W.heap.size):=fun W h=>by
    have hz:=h.size;exact ⟨hT.below (by omega) h,hX.below h,by omega,by omega⟩
  have HR:Aside (0<n->∃ lb lo mb mo,a=some ⟨lb,lo,none⟩/\b=some ⟨mb,mo,none⟩/\∀ W,Below w.heap.size w W->∀ j,j<n->W.rangeAt lb (lo+j*32) (HX.z01 .u8 32 (hs j))/\W.rangeAt mb (mo+j*32) (HX.z01 .u8 32 (ms j))):=fun hk=>by
    obtain ⟨lb,lo,e1,l1,r1⟩:=hH hk;obtain ⟨mb,mo,e2,l2,r2⟩:=hM hk;exact ⟨lb,lo,mb,mo,e1,e2,fun W h j hj=>⟨z1j (r1 j hj) h l1,z1j (r2 j hj) h l2⟩⟩
  have HA:Aside (n<=100/\(∀ i,i<n->∀ j,hs i j<256)/\(∀ i,i<n->∀ j,ms i j<256)/\∀ i,i<n->LST (hs i)=LST (ms i)->hs i=ms i):=⟨by omega,h8,h9,hE⟩
  clear hH hM h8 h9 hE hT hX h0;go_enter Tryz.func6,Tryz.ntmps6;go_wp2_with fail
  refine cn.mono ?_;rintro e w1 ⟨ga,rfl,hg,hHf,hb1⟩;clear cn;have A1:Aside (HX.FOREST w1 w.heap.size ga d 3 0 (fun _=>none) hs/\Below w.heap.size w w1):=⟨HX.FOREST.new (B:=w.heap.size) hHf (by decide) hg hs,hb1⟩
  clear hg hHf hb1;have cn:=HX.z6t d 3 (by decide) w1;go_wp2_with fail
  refine cn.mono ?_;rintro e w2 ⟨gb,rfl,hg,hHf,hb2⟩;clear cn
  have A2:Aside (TWOT w w2 w1.heap.size ga gb d 0 (fun _=>none) (fun _=>none) hs ms):=by
    refine ⟨A1.out.1.below hb2,HX.FOREST.new (B:=w1.heap.size) hHf (by decide) hg ms,?_,A1.out.2.trans (hb2.mono A1.out.2.size),hb2.size,A1.out.2.size⟩;refine HX.APART.later A1.out.1 hb2 hg fun b _ hf=>?_;rcases hf with e | ⟨k,gc,rs,e,_⟩
    · rw [hHf.cell 3] at e
      cases e
    · cases e
  clear hg hHf hb2 A1;generalize w1.heap.size=Bb at *
  go_upto_region 9 with fail
  go_loopg [11,12] n (fun r s11 s12 wx=>∃ (t:Int) (j:Nat) (C D:HX.z04),s11=.int .i64 t/\s12=.int .i64 (j:Int)/\Aside (j+r=n/\TWOT w wx Bb ga gb d j C D hs ms/\z4B hs ms j t))
  case atStart=>exact ⟨-1,0,_,_,rfl,rfl,by omega,A2.out,.inl ⟨rfl,fun k hk=>by omega⟩⟩
  case round=>
    obtain ⟨t,j,C,D,rfl,rfl,A⟩:=hrel;clear A2;cases gk with
    | zero=>
      obtain rfl:j=n:=by have:=A.out.1;omega
      have hlt:¬ (j:Int)<(j:Int):=by omega
      have R1:Aside (TWOT w wr Bb ga gb d j C D hs ms/\z4B hs ms j t):=A.out.2;clear A
      have CR:Aside (∀ W,Below wr.heap.size wr W->(Calls Tryz.prog 18 #[.pointer (some ⟨ga,0,none⟩)] W fun e w'=>e=.returned (.agg (z00 (LST (HX.z0l d hs j))).toArray)/\Below W.heap.size W w')/\(Calls Tryz.prog 18 #[.pointer (some ⟨gb,0,none⟩)] W fun e w'=>e=.returned (.agg (z00 (LST (HX.z0l d ms j))).toArray)/\Below W.heap.size W w')/\Below w.heap.size w W):=fun W h=>by
        have T:=R1.out.1.keep h;obtain ⟨g1,g2,g3⟩:=HT.out W T.bel;rw [<-z0Z,<-z0Z];exact ⟨HX.z76 T.fa g1 g2,HX.z76 T.fb g1 g2,T.bel⟩
      have c1:=(CR.out wr (Below.refl _ _)).1;rcases R1.out.2 with ⟨rfl,hall⟩ | ⟨i,rfl,hij,hne⟩
      · have hre:LST (HX.z0l d hs j)=LST (HX.z0l d ms j):=by rw [HX.z9i hall (Nat.le_refl _)]
        clear hall HR;rw [<-hre] at CR;generalize hRR:LST (HX.z0l d hs j)=RR at *
        have lRR:RR.length=32:=by rw [<-hRR];exact z0m _
        clear hRR hre;have qx:∀ w,(Op.equalIn 10000 23 (.agg (z00 RR).toArray) (.agg (z00 RR).toArray)).run Tryz.prog w=.ok true w:=fun w=>by rw [z1l lRR lRR w,decide_eq_true rfl]
        go_wp2_with fail
        refine c1.mono ?_;rintro e w2 ⟨rfl,hb2⟩;clear c1;have c2:=(CR.out w2 hb2).2.1;go_wp2_with fail
        refine c2.mono ?_;rintro e w3 ⟨rfl,hb3⟩;clear c2;have hw3:=(CR.out w3 (hb2.trans (hb3.mono hb2.size))).2.2;have ca:=HX.z4Y w3 (HT.out w3 hw3).2.1;go_wp2_with fail
        refine ca.mono ?_;rintro e w4 ⟨rfl,hb4⟩;clear ca qx;go_wp2;go_ret;exact ⟨rfl,hw3.trans (hb4.mono hw3.size)⟩
      · have hi0:¬ (i:Int)<0:=by omega
        go_wp2_with fail
        refine c1.mono ?_;rintro e w2 ⟨rfl,hb2⟩;clear c1;have c2:=(CR.out w2 hb2).2.1;go_wp2_with fail
        refine c2.mono ?_;rintro e w3 ⟨rfl,hb3⟩;clear c2;have hb13:Below wr.heap.size wr w3:=hb2.trans (hb3.mono hb2.size);have hw3:=(CR.out w3 hb13).2.2;by_cases hre:LST (HX.z0l d hs j)=LST (HX.z0l d ms j)
        · have qx:∀ w,(Op.equalIn 10000 23 (.agg (z00 (LST (HX.z0l d hs j))).toArray) (.agg (z00 (LST (HX.z0l d ms j))).toArray)).run Tryz.prog w=.ok true w:=fun w=>by rw [z1l (z0m _) (z0m _) w,decide_eq_true hre]
          have huj:=z9k (n:=j) (by have:=HA.out.1;omega);have hui:=z9k (n:=i) (by have:=HA.out.1;omega);have hi2:(i:Int)<(j:Int):=by omega
          have HI:Aside (i<j/\LST (hs i)≠LST (ms i)/\LST (HX.z0l d hs j)=LST (HX.z0l d ms j)):=⟨hij,hne,hre⟩
          have R3:Aside (TWOT w w3 Bb ga gb d j C D hs ms):=R1.out.1.keep hb13;have cM:=z9f R3.out.fa i j hij (Nat.le_refl _) (by have:=HA.out.1;omega) (HT.out _ hw3).1 (HT.out _ hw3).2.2.1;clear hij hne hre R1 CR hb2 hb3 hb13 hw3;go_wp2_with fail
          refine cM.mono ?_;rintro e vA ⟨aA,cA,rfl,oA,hvA⟩;clear cM;obtain ⟨qA,hqA⟩:∃ q,(PSP i j).length=q:=⟨_,rfl⟩
          obtain ⟨lA,hlA⟩:∃ l,CAT (TVAL d hs) (PSP i j)=l:=⟨_,rfl⟩
          have HQ:Aside ((PSP i j).length=qA/\CAT (TVAL d hs) (PSP i j)=lA):=⟨hqA,hlA⟩
          rw [hqA,hlA] at oA;rw [hqA];obtain ⟨xA,hxA⟩:∃ x,vA.alloc (.cells #[.int .u64 (j:Int),.int .u64 (i:Int),.slice aA qA cA] 49)=x:=⟨_,rfl⟩
          obtain ⟨bA,hbA⟩:∃ b,vA.heap.size=b:=⟨_,rfl⟩
          have hkA:Below w3.heap.size w3 xA:=by rw [<-hxA];exact hvA.alloc hvA.size _
          have hPA:Has xA bA #[.int .u64 (j:Int),.int .u64 (i:Int),.slice aA qA cA] 49:=by rw [<-hxA,<-hbA];exact Has.new _ _ _
          have hlrA:∀ x∈lA,0<=x/\x<=255:=by rw [<-hlA];exact z6u d hs j HA.out.2.1 _ (z75 HI.out.1 (Nat.le_refl _) (by have:=HA.out.1;omega))
          have hfA:Flat xA aA qA lA:=by rw [<-hxA];exact (z3j oA hlrA).below ((Below.refl _ _).alloc (Nat.le_refl _) _)
          have hqs:qA<=188:=by rw [<-hqA];have:=HA.out.1;have:=HI.out.1;have h:=z6M (i:=i) (n:=j) (by omega) (by omega);omega
          have RA:Aside (TWOT w xA Bb ga gb d j C D hs ms/\Has xA bA #[.int .u64 (j:Int),.int .u64 (i:Int),.slice aA qA cA] 49/\Flat xA aA qA lA/\qA<=188/\∀ x∈lA,0<=x/\x<=255):=⟨R3.out.keep hkA,hPA,hfA,hqs,hlrA⟩
          clear R3 oA hvA hkA hPA hlrA hfA hqs hlA;go_upto_region 21 with fail
          clear hxA hbA;have cM:=z9f RA.out.1.fb i j HI.out.1 (Nat.le_refl _) (by have:=HA.out.1;omega) (HT.out _ RA.out.1.bel).1 (HT.out _ RA.out.1.bel).2.2.1;go_wp2_with fail
          refine cM.mono ?_;rintro e vB ⟨aB,cB,rfl,oB,hvB⟩;clear cM;obtain ⟨lB,hlB⟩:∃ l,CAT (TVAL d ms) (PSP i j)=l:=⟨_,rfl⟩
          have HQ2:Aside (CAT (TVAL d ms) (PSP i j)=lB):=hlB;rw [hqA,hlB] at oB;rw [hqA];obtain ⟨xB,hxB⟩:∃ x,vB.alloc (.cells #[.int .u64 (j:Int),.int .u64 (i:Int),.slice aB qA cB] 49)=x:=⟨_,rfl⟩
          obtain ⟨bB,hbB⟩:∃ b,vB.heap.size=b:=⟨_,rfl⟩
          have hkB:Below xA.heap.size xA xB:=by rw [<-hxB];exact hvB.alloc hvB.size _
          have hPB:Has xB bB #[.int .u64 (j:Int),.int .u64 (i:Int),.slice aB qA cB] 49:=by rw [<-hxB,<-hbB];exact Has.new _ _ _
          have hlrB:∀ x∈lB,0<=x/\x<=255:=by rw [<-hlB];exact z6u d ms j HA.out.2.2.1 _ (z75 HI.out.1 (Nat.le_refl _) (by have:=HA.out.1;omega))
          have hfB:Flat xB aB qA lB:=by rw [<-hxB];exact (z3j oB hlrB).below ((Below.refl _ _).alloc (Nat.le_refl _) _)
          have RB:Aside (TWOT w xB Bb ga gb d j C D hs ms/\Has xB bA #[.int .u64 (j:Int),.int .u64 (i:Int),.slice aA qA cA] 49/\Flat xB aA qA lA/\Has xB bB #[.int .u64 (j:Int),.int .u64 (i:Int),.slice aB qA cB] 49/\Flat xB aB qA lB):=⟨RA.out.1.keep hkB,RA.out.2.1.keep hkB,RA.out.2.2.1.below hkB,hPB,hfB⟩
          have HL:Aside (qA<=188/\(∀ x∈lA,0<=x/\x<=255)/\∀ x∈lB,0<=x/\x<=255):=⟨RA.out.2.2.2.1,RA.out.2.2.2.2,hlrB⟩
          clear RA oB hvB hkB hPB hlrB hfB hlB hqA;go_upto_region 22 with fail
          clear hxB hbB;obtain ⟨ZA,hZA⟩:∃ Z,PRB j i lA=Z:=⟨_,rfl⟩
          obtain ⟨ZB,hZB⟩:∃ Z,PRB j i lB=Z:=⟨_,rfl⟩
          have HZ:Aside (PRB j i lA=ZA/\PRB j i lB=ZB/\(∀ z∈ZA,0<=z/\z<=255)/\(∀ z∈ZB,0<=z/\z<=255)/\ZA.length<=9600/\ZB.length<=9600):=by
            have e1:=HA.out.1;have e2:=HI.out.1;refine ⟨hZA,hZB,?_,?_,?_,?_⟩
            · rw [<-hZA];exact z7L (by omega) (by omega) HL.out.2.1
            · rw [<-hZB];exact z7L (by omega) (by omega) HL.out.2.2
            · rw [<-hZA];exact zaT RB.out.2.2.1.1 HL.out.1
            · rw [<-hZB];exact zaT RB.out.2.2.2.2.1 HL.out.1
          have y0:xB.cell? ⟨bA,0,none⟩=some (.int .u64 (j:Int)):=RB.out.2.1.cell 0;have y1:xB.cell? ⟨bA,1,none⟩=some (.int .u64 (i:Int)):=RB.out.2.1.cell 1;have y2:xB.cell? ⟨bA,2,none⟩=some (.slice aA qA cA):=RB.out.2.1.cell 2;have cE:=z7j j i (by have:=HA.out.1;omega) (by have:=HA.out.1;have:=HI.out.1;omega) aA qA cA (by have:=HL.out.1;omega) lA xB RB.out.2.2.1 (HT.out _ RB.out.1.bel).1 (HT.out _ RB.out.1.bel).2.2.1;rw [show ENC j i qA lA=(0,ZA) by rw [<-HQ.out.1,zaS HI.out.1 (by have:=HA.out.1;omega),hZA]] at cE;clear hZA hZB;go_wp2_with fail
          refine cE.mono ?_;rintro e e1 ⟨v1,rfl,o1,hb1⟩;clear cE y0 y1 y2;obtain ⟨pa,pc,rfl,hpc⟩:=z6w o1;have RE1:Aside (TWOT w e1 Bb ga gb d j C D hs ms/\Has e1 bB #[.int .u64 (j:Int),.int .u64 (i:Int),.slice aB qA cB] 49/\Flat e1 aB qA lB/\Bytes e1 pa ZA.length ZA/\ZA.length<=pc):=⟨RB.out.1.keep hb1,RB.out.2.2.2.1.keep hb1,RB.out.2.2.2.2.below hb1,(z1f o1 HZ.out.2.2.1).1,hpc⟩
          clear RB hb1 o1 hpc;go_upto_region 23 with fail
          have y0:e1.cell? ⟨bB,0,none⟩=some (.int .u64 (j:Int)):=RE1.out.2.1.cell 0;have y1:e1.cell? ⟨bB,1,none⟩=some (.int .u64 (i:Int)):=RE1.out.2.1.cell 1;have y2:e1.cell? ⟨bB,2,none⟩=some (.slice aB qA cB):=RE1.out.2.1.cell 2;have cE:=z7j j i (by have:=HA.out.1;omega) (by have:=HA.out.1;have:=HI.out.1;omega) aB qA cB (by have:=HL.out.1;omega) lB e1 RE1.out.2.2.1 (HT.out _ RE1.out.1.bel).1 (HT.out _ RE1.out.1.bel).2.2.1;rw [show ENC j i qA lB=(0,ZB) by rw [<-HQ.out.1,zaS HI.out.1 (by have:=HA.out.1;omega),HZ.out.2.1]] at cE;go_wp2_with fail
          refine cE.mono ?_;rintro e e2 ⟨v2,rfl,o2,hb2⟩;clear cE y0 y1 y2;obtain ⟨pb,pd,rfl,hpd⟩:=z6w o2;have RE2:Aside (TWOT w e2 Bb ga gb d j C D hs ms/\Bytes e2 pa ZA.length ZA/\ZA.length<=pc/\Bytes e2 pb ZB.length ZB/\ZB.length<=pd):=⟨RE1.out.1.keep hb2,RE1.out.2.2.2.1.below hb2,RE1.out.2.2.2.2,(z1f o2 HZ.out.2.2.2.1).1,hpd⟩
          clear RE1 hb2 o2 hpd;obtain ⟨lb,lo,mb,mo,rfl,rfl,HRR⟩:=HR.out (by have:=HI.out.1;omega);have HRA:Aside (∀ W,Below w.heap.size w W->∀ k,k<j->W.rangeAt lb (lo+k*32) (HX.z01 .u8 32 (hs k))/\W.rangeAt mb (mo+k*32) (HX.z01 .u8 32 (ms k))):=HRR;clear HRR HR;obtain ⟨s,u,hX,hsu,hhe⟩:=zcn (d:=d) HI.out.1 HA.out.1 HA.out.2.1 HA.out.2.2.1 HI.out.2.1 HI.out.2.2 (by rw [HQ.out.2,HZ.out.1];exact HZ.out.2.2.1) (by rw [HQ2.out,HZ.out.2.1];exact HZ.out.2.2.2.1);rw [HQ.out.2,HQ2.out,HZ.out.1,HZ.out.2.1] at hX;have BW:Aside (∀ W,Below e2.heap.size e2 W->Below w.heap.size w W):=fun W h=>(RE2.out.1.keep h).bel
          have hS:∀ W,Below e2.heap.size e2 W->W.rangeAt lb (lo+i*32) (z00 (LST (hs i)))/\W.rangeAt mb (mo+i*32) (z00 (LST (ms i))):=fun W h=>by
            have:=HRA.out W (BW.out W h) i HI.out.1;rwa [z2B,z2B] at this
          have cR:∀ W,Below e2.heap.size e2 W->Calls Tryz.prog 18 #[.pointer (some ⟨ga,0,none⟩)] W fun e w'=>e=.returned (.agg (z00 (LST (HX.z0l d hs j))).toArray)/\Below e2.heap.size e2 w'/\Below W.heap.size W w':=fun W h=>by
            have T:=RE2.out.1.keep h;obtain ⟨g1,g2,g3⟩:=HT.out W T.bel;rw [<-z0Z];exact (HX.z76 T.fa g1 g2).mono fun e w' h2=>⟨h2.1,h.trans (h2.2.mono h.size),h2.2⟩
          have cM:∀ W,Below e2.heap.size e2 W->Calls Tryz.prog 9 #[.int .i64 d,.agg (z00 (LST (HX.z0l d hs j))).toArray,.int .u64 (j:Int),.int .u64 (i:Int),.agg (z00 (LST (hs i))).toArray,.slice pa ZA.length pc,.agg (z00 (LST (ms i))).toArray,.slice pb ZB.length pd] W fun e w'=>∃ (a1:Option Addr) (n1 q1:Nat) (a2:Option Addr) (n2 q2:Nat) (o1:Bool),e=.returned (.tuple #[.agg #[.slice a1 n1 q1,.slice a2 n2 q2],.bool o1])/\(Below e2.heap.size e2 w'/\∃ B9,TOLD1 w' B9 (some (s,u)) (.slice a1 n1 q1) (.slice a2 n2 q2) o1)/\Below W.heap.size W w':=fun W h=>by
            obtain ⟨g1,g2,g3,g4⟩:=HT.out W (BW.out W h);have e1:=HA.out.1;have e2':=HI.out.1;have z1:=HZ.out.2.2.2.2.1;have z2:=HZ.out.2.2.2.2.2;have c:=z9O d (LST (HX.z0l d hs j)) (z25 fun x=>HX.zfC _ _ _ x) j i (by omega) (by omega) (LST (hs i)) (LST (ms i)) (z25 fun k=>HA.out.2.1 i e2' k) (z25 fun k=>HA.out.2.2.1 i e2' k) pa pb ZA.length pc ZB.length pd (by omega) RE2.out.2.2.1 (by omega) RE2.out.2.2.2.2 ZA ZB W (RE2.out.2.1.below h) (RE2.out.2.2.2.1.below h) g1 g2 g4 (z3B HZ.out.2.2.1) (z3B HZ.out.2.2.2.1);rw [hX] at c;refine c.mono fun e w' hcl=>?_;obtain ⟨a1,n1,q1,a2,n2,q2,o1,h1,h2,h3⟩:=hcl.told;exact ⟨a1,n1,q1,a2,n2,q2,o1,h1,⟨h.trans (h3.mono h.size),_,h2⟩,h3⟩
          generalize LST (HX.z0l d hs j)=RR at *
          generalize hLX:LST (hs i)=LX at *
          generalize hLY:LST (ms i)=LY at *
          have lX:LX.length=32:=by rw [<-hLX];exact z0m _
          have lY:LY.length=32:=by rw [<-hLY];exact z0m _
          generalize ZA.length=nA at *
          generalize ZB.length=nB at *
          go_upto_region 24 with fail
          refine zfq e2 d lb lo mb mo j c c2 i ga RR LX LY (.slice pa nA pc) (.slice pb nB pd) lX lY hi2 hui e2.heap.size (fun W=>Below e2.heap.size e2 W) (fun a1 n1 q1 a2 n2 q2 o1 W=>Below e2.heap.size e2 W/\∃ B9,TOLD1 W B9 (some (s,u)) (.slice a1 n1 q1) (.slice a2 n2 q2) o1) (fun a1 n1 q1 a2 n2 q2 o1 bz W=>Below e2.heap.size e2 W/\(∃ B9,TOLD1 W B9 (some (s,u)) (.slice a1 n1 q1) (.slice a2 n2 q2) o1)/\Has W bz #[.slice a1 n1 q1,.slice a2 n2 q2] 30)
            (Below.refl _ _).drew hS (fun a1 n1 q1 a2 n2 q2 o1 W h=>hS W h.1) (fun a1 n1 q1 a2 n2 q2 o1 bz W h=>hS W h.1) ⟨fun W h=>h.size,fun a1 n1 q1 a2 n2 q2 o1 W h=>h.1.size⟩
            ⟨fun W o h=>h.alloc h.size o,fun a1 n1 q1 a2 n2 q2 o1 W o h=>⟨h.1.alloc h.1.size o,by obtain ⟨B9,h2⟩:=h.2;exact ⟨B9,h2.below ((Below.refl _ _).alloc (Nat.le_refl _) _)⟩⟩⟩
            cR cM (fun a1 n1 q1 a2 n2 q2 o1 bz W h hz hN=>⟨(h.1.setCell (p:=⟨bz,0,none⟩) hN _).setCell (p:=⟨bz,1,none⟩) hN _,by obtain ⟨B9,h2⟩:=h.2;exact ⟨B9,h2.set7 hz _ _⟩,(hz.set 0 _).set 1 _⟩) (fun _ _ _ _ _ h=>h) ?_
          intro a1 n1 q1 a2 n2 q2 o1 bz W4 hP4;obtain ⟨hb4,⟨B9,TD⟩,hHz⟩:=hP4;have hw4:=BW.out W4 hb4;obtain ⟨ho1,gA,cA',gB,cB',f1,f2,r1,r2,r5⟩:=TD.2 s u rfl;subst ho1;cases f1;cases f2;have cH:=HX.z4X d _ _ q1 s _ _ q2 u W4 r1.text r1.cap (fun x hx=>by cases hx;exact r1.lt.2) (by have:=r1.2.2.2;omega) r2.text r2.cap (fun x hx=>by cases hx;exact r2.lt.2) (by have:=r2.2.2.2;omega) (HT.out W4 hw4).2.1;rw [zfn hsu hhe] at cH;have x0:W4.cell? ⟨bz,0,none⟩=some (.slice (some ⟨gA,0,none⟩) s.length q1):=hHz.cell 0;have x1:W4.cell? ⟨bz,1,none⟩=some (.slice (some ⟨gB,0,none⟩) u.length q2):=hHz.cell 1;clear hS cR cM TD r1 r2 r5 hHz hX hsu hhe HRA RE2 HZ HL HQ HQ2 HI qx BW;go_wp2_with fail
          refine cH.mono ?_;rintro e w5 ⟨rfl,hb5⟩;clear cH x0 x1;have hw5:=hw4.trans (hb5.mono hw4.size);have ca:=HX.z4Y w5 (HT.out w5 hw5).2.1;go_wp2_with fail
          refine ca.mono ?_;rintro e w6 ⟨rfl,hb6⟩;clear ca;go_wp2;go_ret;exact ⟨rfl,hw5.trans (hb6.mono hw5.size)⟩
        · have qx:∀ w,(Op.equalIn 10000 23 (.agg (z00 (LST (HX.z0l d hs j))).toArray) (.agg (z00 (LST (HX.z0l d ms j))).toArray)).run Tryz.prog w=.ok false w:=fun w=>by rw [z1l (z0m _) (z0m _) w,decide_eq_false hre]
          have ca:=HX.z4Y w3 (HT.out w3 hw3).2.1;clear hre hne hij CR R1;go_wp2_with fail
          refine ca.mono ?_;rintro e w4 ⟨rfl,hb4⟩;clear ca qx;go_wp2;go_ret;exact ⟨rfl,hw3.trans (hb4.mono hw3.size)⟩
    | succ r=>
      have hin:j<n:=by have:=A.out.1;omega
      obtain ⟨lb,lo,mb,mo,rfl,rfl,HRR⟩:=HR.out (by omega);have HRA:Aside (∀ W,Below w.heap.size w W->∀ j,j<n->W.rangeAt lb (lo+j*32) (HX.z01 .u8 32 (hs j))/\W.rangeAt mb (mo+j*32) (HX.z01 .u8 32 (ms j))):=HRR;clear HRR HR;have hlt:(j:Int)<(n:Int):=by omega
      have hi0:¬ (j:Int)<0:=by omega
      have hrg:=(HRA.out wr A.out.2.1.bel j hin).1;have GB:=(HT.out w (Below.refl _ _)).2.1.2.2;have cA:=HX.z7O A.out.2.1.fa (hs j) (HA.out.2.1 j hin) (by have:=HA.out.1;omega) (HT.out wr A.out.2.1.bel).2.1 GB A.out.2.1.bel.size;have ei:wrap64 ((j:Int)+1)=((j+1:Nat):Int):=by have:=HA.out.1;unfold wrap64;omega
      have HN:Aside (j<n/\j+1+r=n):=by have:=A.out.1;exact ⟨hin,by clear ei;omega⟩
      clear hin;go_wp2_with (refine wpList_load_mid rfl 23 (.tmp 65) rfl lb (lo+j*32) rfl (HX.z01 .u8 32 (hs j)) _ hrg Tryz.underlying23 rfl (by rw [HX.z09];exact HX.z0r) ?_;rw [<-HX.z0G])
      refine cA.mono ?_;rintro e w3 ⟨rfl,C',a1,a2,a3⟩
      have A3:Aside (HX.FOREST w3 w.heap.size ga d 3 (j+1) C' hs/\HX.FOREST w3 Bb gb d 3 j D ms/\HX.APART w3 ga C' gb D/\Below w.heap.size w w3/\Bb<=w3.heap.size/\w.heap.size<=Bb/\z4B hs ms j t):=by
        obtain ⟨k1,k2⟩:=A.out.2.1.fb.beside A.out.2.1.ap a2;exact ⟨z5v a1,k1,k2,A.out.2.1.bel.trans a3,Nat.le_trans A.out.2.1.sz a2.size,A.out.2.1.lo,A.out.2.2⟩
      clear cA hrg a1 a2 a3 A;have hrg:=(HRA.out w3 A3.out.2.2.2.1 j HN.out.1).2;have cA:=HX.z7O A3.out.2.1 (ms j) (HA.out.2.2.1 j HN.out.1) (by have:=HA.out.1;have:=HN.out.1;omega) (HT.out w3 A3.out.2.2.2.1).2.1 (Nat.lt_of_lt_of_le GB A3.out.2.2.2.2.2.1) A3.out.2.2.2.2.1;go_wp2_with (refine wpList_load_mid rfl 23 (.tmp 71) rfl mb (mo+j*32) rfl (HX.z01 .u8 32 (ms j)) _ hrg Tryz.underlying23 rfl (by rw [HX.z09];exact HX.z0r) ?_;rw [<-HX.z0G])
      refine cA.mono ?_;rintro e w4 ⟨rfl,D',a1,a2,a3⟩
      have A4:Aside (TWOT w w4 Bb ga gb d (j+1) C' D' hs ms/\z4B hs ms j t):=by
        obtain ⟨k1,k2⟩:=A3.out.1.beside A3.out.2.2.1.symm a2;exact ⟨⟨k1,z5v a1,k2.symm,A3.out.2.2.2.1.trans (a3.mono A3.out.2.2.2.2.2.1),Nat.le_trans A3.out.2.2.2.2.1 a2.size,A3.out.2.2.2.2.2.1⟩,A3.out.2.2.2.2.2.2⟩
      clear cA hrg a1 a2 a3 A3 GB;clear HT
      have hS:∀ W,Below w4.heap.size w4 W->W.rangeAt lb (lo+j*32) (z00 (LST (hs j)))/\W.rangeAt mb (mo+j*32) (z00 (LST (ms j))):=fun W h=>by
        have:=HRA.out W (A4.out.1.bel.trans (h.mono A4.out.1.bel.size)) j HN.out.1;rwa [z2B,z2B] at this
      rcases A4.out.2 with ⟨rfl,hall⟩ | ⟨i,rfl,hij,hne⟩
      · by_cases he:LST (hs j)=LST (ms j)
        · have HF:Aside (z4B hs ms (j+1) (-1)):=.inl ⟨rfl,fun k hk=>by
            rcases Nat.lt_succ_iff_lt_or_eq.1 hk with h | h
            · exact hall k h
            · rw [h];exact HA.out.2.2.2 j HN.out.1 he⟩
          clear hall;have qx:∀ w,(Op.equalIn 10000 23 (.agg (z00 (LST (hs j))).toArray) (.agg (z00 (LST (ms j))).toArray)).run Tryz.prog w=.ok true w:=fun w=>by rw [z1l (z0m _) (z0m _) w,decide_eq_true he]
          go_upto_region 13 with fail
          refine zdL w4 lb lo mb mo n c c2 j _ _ (z0m _) (z0m _) hlt qx (fun W=>Below w4.heap.size w4 W) (Below.refl _ _).drew hS (fun _ _ _ _ _ h=>h) ?_;intro w5 hb5;have A5:Aside (TWOT w w5 Bb ga gb d (j+1) C' D' hs ms):=A4.out.1.keep hb5;clear hS qx hb5 he;go_wp2_with fail
          go_roundg r
          case measure=>exact Nat.lt_succ_self _
          case rel=>exact ⟨-1,j+1,C',D',rfl,by first | rfl | (rw [ei]),HN.out.2,A5.out,HF.out⟩
        · have HF:Aside (z4B hs ms (j+1) (j:Int)):=.inr ⟨j,rfl,Nat.lt_succ_self _,he⟩
          clear hall;have qx:∀ w,(Op.equalIn 10000 23 (.agg (z00 (LST (hs j))).toArray) (.agg (z00 (LST (ms j))).toArray)).run Tryz.prog w=.ok false w:=fun w=>by rw [z1l (z0m _) (z0m _) w,decide_eq_false he]
          go_upto_region 13 with fail
          refine zdM w4 lb lo mb mo n c c2 j _ _ (z0m _) (z0m _) hlt qx (fun W=>Below w4.heap.size w4 W) (Below.refl _ _).drew hS (fun _ _ _ _ _ h=>h) ?_;intro w5 hb5;have A5:Aside (TWOT w w5 Bb ga gb d (j+1) C' D' hs ms):=A4.out.1.keep hb5;clear hS qx hb5 he;go_wp2_with fail
          go_roundg r
          case measure=>exact Nat.lt_succ_self _
          case rel=>exact ⟨(j:Int),j+1,C',D',rfl,by first | rfl | (rw [ei]),HN.out.2,A5.out,HF.out⟩
      · have HF:Aside (z4B hs ms (j+1) (i:Int)):=.inr ⟨i,rfl,by omega,hne⟩
        have hi1:¬ (i:Int)<0:=by omega
        clear hij hne;go_upto_region 13 with fail
        refine zdN w4 lb lo mb mo n c c2 j _ _ i (by omega) (fun W=>Below w4.heap.size w4 W) (Below.refl _ _).drew hS (fun _ _ _ _ _ h=>h) ?_;intro w5 hb5;have A5:Aside (TWOT w w5 Bb ga gb d (j+1) C' D' hs ms):=A4.out.1.keep hb5;clear hS hb5;go_wp2_with fail
        go_roundg r
        case measure=>exact Nat.lt_succ_self _
        case rel=>exact ⟨(i:Int),j+1,C',D',rfl,by first | rfl | (rw [ei]),HN.out.2,A5.out,HF.out⟩
theorem z6x (d:Int) (a:Option Addr) (n c:Nat) (b:Option Addr) (m c2:Nat) (hs ms:Nat->Nat->Nat) (w:World) (hH:HX.HASHES w a n hs) (h8:∀ i,i<n->∀ j,hs i j<256) (hM:HX.HASHES w b m ms) (h9:∀ i,i<m->∀ j,ms i j<256) (hT:Tabled w) (hX:HX.Tabled w) (h0:2<w.heap.size):Calls Tryz.prog 6 #[.int .i64 d,.slice a n c,.slice b m c2] w fun e w'=>e=.returned (.bool true)/\Below w.heap.size w w':=by
 by_cases hn:(100:Int)<(n:Int)
 ·exact zco d a n c b m c2 w hn
 ·by_cases hm:n=m
  ·subst hm
   have k:∀ {a:Option Addr} {hs:Nat->Nat->Nat},HX.HASHES w a n hs->HX.HASHES w a n (z2g hs):=fun h h0=>by
    obtain ⟨lb,lo,e,l,r⟩:=h h0;exact ⟨lb,lo,e,l,fun j hj=>by rw [zcm];exact r j hj⟩
   exact zcp d a n c b c2 (z2g hs) (z2g ms) w hn (k hH) (k hM) (z9j h8) (z9j h9) (fun i _ h=>zfH h) hT hX h0
  ·exact za2 d a n c b m c2 w hn hm
end Go.Proofs.YtnimaaflmdoaaaaGreatDoor
namespace Go.Proofs.YtnimaaflmdoaaaaGreatDoor
open Go.ChangeShapes Go.WideShapes Go.ChangeAt Go.WideMaps Go.WideElems Go.RowKit
set_option maxRecDepth 100000
theorem own:ownKnob Tryz.prog.godebug=none:=by kernel_rfl
theorem z78:laidOutB Tryz.prog=true:=by kernel_rfl
theorem gTab:Tryz.prog.globalNamed "math/bits.deBruijn64tab"=some 2:=by kernel_rfl
theorem tTab:(Tryz.prog.globals[2]?).map (·.type)=some 158:=by kernel_rfl
theorem zgL {H:Type}:(Rows.laid_math_bits_deBruijn64tab:DataW H)=.agg (TAB.map fun n=>.lit (.int .u8 (n:Nat))):=rfl
end Go.Proofs.YtnimaaflmdoaaaaGreatDoor
namespace Go.Proofs.YtnimaaflmdoaaaaGreatDoor.HX
set_option maxRecDepth 100000
open Go.ChangeShapes Go.WideShapes Go.ChangeAt Go.WideMaps Go.WideElems Go.RowKit
theorem own:ownKnob Tryz.prog.godebug=none:=by kernel_rfl
theorem z78:laidOutB Tryz.prog=true:=by kernel_rfl
theorem gRounds:Tryz.prog.globalNamed "massif/hash.rounds"=some 1:=by kernel_rfl
theorem gBegin:Tryz.prog.globalNamed "massif/hash.begin"=some 0:=by kernel_rfl
theorem tRounds:(Tryz.prog.globals[1]?).map (·.type)=some 195:=by kernel_rfl
theorem tBegin:(Tryz.prog.globals[0]?).map (·.type)=some 193:=by kernel_rfl
theorem zcq {H:Type}:(Rows.laid_massif_hash_rounds:DataW H)=.agg (KLIST.map fun n=>.lit (.int .u32 (n:Nat))):=rfl
theorem zec {H:Type}:(Rows.laid_massif_hash_begin:DataW H)=.agg (BEGIN.map fun n=>.lit (.int .u32 (n:Nat))):=rfl
theorem z9l {H:Type} {enc:TypeId × Value->H} {W:World} {base fuel n:Nat} {sp:Nat->Bool} {held:Bool} {t:TypeId} {cs:List Value} {ps:List MemPlace} (L:List Nat) (hL:L.length=n) (ht:Tryz.prog.underlying t=some (.array n 192))
  (hd:DataW.trod enc Tryz.prog W base sp held fuel t cs=some (.agg (L.map fun n=>.lit (.int .u32 (n:Nat))),ps)) (i:Nat) (hi:i<n):cs[i]?=some (.int .u32 (L.getD i 0:Nat)):=by
 obtain ⟨xs,m1,rfl,hx1,hlen,hn,hel⟩:=DataW.trod_array ht hd;have c5:Tryz.prog.cellsOf 192=1:=by kernel_rfl
 simp only [Prod.mk.injEq,DataW.agg.injEq] at hx1;have hx:=hx1.1;have h0:=hel i hi;have hi':i<xs.length:=by omega
 rw [List.getElem?_eq_getElem hi',c5,Nat.mul_one] at h0;obtain ⟨k,e1,e2,_⟩:=DataW.trod_int Tryz.underlying192 h0
 have hk:(k:Int)=((L.getD i 0:Nat):Int):=by
  have hz:=congrArg (fun l=>l[i]?) hx;have hT:i<L.length:=by omega
  simp only [List.getElem?_map,List.getElem?_eq_getElem hi',List.getElem?_eq_getElem hT,Option.map_some,e2] at hz;simp at hz;rw [List.getD_eq_getElem?_getD,List.getElem?_eq_getElem hT];simpa using hz.symm
 rw [<-hk];have:=congrArg (fun l=>l[0]?) e1;simpa using this
theorem zfI {W:World} (h:laidMetH Tryz.prog [("math/bits.deBruijn64tab",Rows.laid_math_bits_deBruijn64tab),("massif/hash.begin",Rows.laid_massif_hash_begin),("massif/hash.rounds",Rows.laid_massif_hash_rounds)] W):Go.Proofs.YtnimaaflmdoaaaaGreatDoor.Tabled W/\Tabled W/\2<W.heap.size:=by
 rw [MakeChecks.laidMetH_plain _ _ _ (by kernel_rfl)] at h;obtain ⟨ps,⟨g0,t0,cs0,f0,p0,q0,hg0,ht0,hv0,hd0,⟨g1,t1,cs1,f1,p1,q1,hg1,ht1,hv1,hd1,⟨g2,t2,cs2,f2,p2,q2,hg2,ht2,hv2,hd2,_,_⟩,_⟩,_⟩,_,_⟩:=h;obtain rfl:=Option.some.inj (gTab.symm.trans hg0);obtain rfl:=Option.some.inj (tTab.symm.trans ht0);obtain rfl:=Option.some.inj (gBegin.symm.trans hg1);obtain rfl:=Option.some.inj (tBegin.symm.trans ht1);obtain rfl:=Option.some.inj (gRounds.symm.trans hg2);obtain rfl:=Option.some.inj (tRounds.symm.trans ht2);rw [zec] at hd1;rw [zcq] at hd2;have A:∀ i,i<8->W.cell? ⟨0,i,none⟩=some (.int .u32 (BEGIN.getD i 0:Nat)):=fun i hi=>(World.var?_cell hg1 hv1 i).trans (Array.getElem?_toList.symm.trans (z9l BEGIN rfl Tryz.underlying193 hd1 i hi));have B:∀ i,i<64->W.cell? ⟨1,i,none⟩=some (.int .u32 (KC i:Nat)):=fun i hi=>(World.var?_cell hg2 hv2 i).trans (Array.getElem?_toList.symm.trans (z9l KLIST rfl Tryz.underlying195 hd2 i hi));obtain ⟨xs,m1,rfl,hx1,hlen,hn,hel⟩:=DataW.trod_array Tryz.underlying158 hd0;have c5:Tryz.prog.cellsOf 5=1:=by kernel_rfl
 simp only [Prod.mk.injEq] at hx1;have hx:=hx1.1;rw [zgL] at hx;simp only [DataW.agg.injEq] at hx
 have T:Go.Proofs.YtnimaaflmdoaaaaGreatDoor.Tabled W:=fun i hi=>by
  have h0:=hel i hi;have hi':i<xs.length:=by omega
  rw [List.getElem?_eq_getElem hi',c5,Nat.mul_one] at h0;obtain ⟨k,e1,e2,_⟩:=DataW.trod_int Tryz.underlying5 h0
  have hk:(k:Int)=((TAB.getD i 0:Nat):Int):=by
   have hz:=congrArg (fun l=>l[i]?) hx;have hT:i<TAB.length:=hi;simp only [List.getElem?_map,List.getElem?_eq_getElem hi',List.getElem?_eq_getElem hT,Option.map_some,e2] at hz;simp at hz;rw [List.getD_eq_getElem?_getD,List.getElem?_eq_getElem hT];simpa using hz.symm
  have hv:=World.var?_cell hg0 hv0 i;rw [hv,<-hk];have:=congrArg (fun l=>l[0]?) e1;simp at this;simpa using this
 have z0:2<W.heap.size:=World.block_lt_of_cell? W _ (T 0 (by decide));have z1:0<W.heap.size:=World.block_lt_of_cell? W _ (A 0 (by decide));have z2:1<W.heap.size:=World.block_lt_of_cell? W _ (B 0 (by decide));exact ⟨T,⟨B,A,by omega⟩,by omega⟩
theorem zed {H:Type} {enc:TypeId × Value->H} {W:World} {fuel:Nat} {cs:List Value} {x:DataW H × List MemPlace} (hf:DataW.trod enc Tryz.prog W 0 (fun _=>true) true fuel 23 cs=some x):∃ h:Nat->Nat,(∀ i,h i<256)/\cs=z01 .u8 32 h:=by
 obtain ⟨xs,m,rfl,_,hl,hn,hel⟩:=DataW.trod_array Tryz.underlying23 hf;have c5:Tryz.prog.cellsOf 5=1:=by kernel_rfl
 have c32:Tryz.prog.cellsOf 23=32:=by kernel_rfl
 rw [c32] at hl
 have hx:∀ i,i<32->∃ k:Nat,cs[i]?=some (.int .u8 (k:Int))/\k<256:=fun i hi=>by
  have h0:=hel i hi;rw [List.getElem?_eq_getElem (by omega),c5,Nat.mul_one] at h0;obtain ⟨k,e1,_,e3⟩:=DataW.trod_int Tryz.underlying5 h0;have hb:=bounds_u8 e3;refine ⟨k.toNat,?_,by omega⟩;have:=congrArg (fun l=>l[0]?) e1;rw [Int.toNat_of_nonneg hb.1];simpa using this
 have F:∃ f:Nat->Nat,(∀ i,f i<256)/\∀ i,i<32->cs[i]?=some (.int .u8 ((f i:Nat):Int)):=by
  refine ⟨fun i=>if hi:i<32 then (hx i hi).choose else 0,fun i=>?_,fun i hi=>?_⟩
  ·by_cases hi:i<32
   ·simp only [hi,dif_pos];exact (hx i hi).choose_spec.2
   ·simp only [hi,dif_neg,not_false_iff];decide
  ·simp only [hi,dif_pos];exact (hx i hi).choose_spec.1
 obtain ⟨f,hf1,hf2⟩:=F;refine ⟨f,hf1,?_⟩;apply List.ext_getElem?;intro i;by_cases hi:i<32
 ·rw [hf2 i hi,z16 _ _ _ _ hi]
 ·rw [List.getElem?_eq_none (by omega),List.getElem?_eq_none (by rw [z09];omega)]
theorem z5w {H:Type} {enc:TypeId × Value->H} {W:World} {a:Option Addr} {k c:Nat} {d:DataW H} {ps:List MemPlace} (hd:DataW.Trod enc Tryz.prog W 0 (fun _=>true) true 42 (.slice a k c) d ps):
  ∃ hs:Nat->Nat->Nat,(∀ i,i<k->∀ j,hs i j<256)/\HASHES W a k hs:=by
 obtain ⟨fuel,hf⟩:=hd;rcases DataW.trod_slice Tryz.underlying42 hf with ⟨h0,_⟩ | ⟨ad,len,cap,elems,rest,n,_,h0,hx,_,hl,hm,hlen,hel,_,_⟩
 ·simp [Value.cells] at h0
  obtain ⟨rfl,rfl,rfl⟩:=h0;exact ⟨fun _ _=>0,fun i hi=>by omega,fun h=>by omega⟩
 ·simp [Value.cells] at h0
  obtain ⟨rfl,rfl,rfl⟩:=h0;have c32:Tryz.prog.cellsOf 23=32:=by kernel_rfl
  have each:∀ i,i<k->∃ h:Nat->Nat,(∀ j,h j<256)/\∀ j,j<32->W.cell? ((ad.add (i*32)).add j)=some (.int .u8 ((h j:Nat):Int)):=fun i hi=>by
   have h:=hel i hi;rw [List.getElem?_eq_getElem (by omega),c32,Option.bind_eq_some_iff] at h;obtain ⟨cs,hcs,ht⟩:=h;obtain ⟨f,h1,rfl⟩:=zed ht;have hs:=(World.cells?_some hcs).2.2;refine ⟨f,h1,fun j hj=>?_⟩;have s:=hs j hj;rw [s];exact z16 .u8 32 f j hj
  have F:∃ f:Nat->Nat->Nat,∀ i,i<k->(∀ j,f i j<256)/\∀ j,j<32->W.cell? ((ad.add (i*32)).add j)=some (.int .u8 ((f i j:Nat):Int)):=by
   refine ⟨fun i=>if hi:i<k then (each i hi).choose else fun _=>0,fun i hi=>?_⟩;simp only [hi,dif_pos];exact (each i hi).choose_spec
  obtain ⟨f,hf2⟩:=F;refine ⟨f,fun i hi=>(hf2 i hi).1,fun h0k=>?_⟩;obtain ⟨b,off,spot⟩:=ad;have hc:=(hf2 0 h0k).2 0 (by decide);have hspot:spot=none:=by simpa [Addr.add] using World.cell?_spot hc
  subst hspot;refine ⟨b,off,rfl,?_,fun i hi j v hv=>?_⟩
  ·have:=World.block_lt_of_cell? W _ hc
   simpa [Addr.add] using this
  ·have hj:j<32:=by have:=(List.getElem?_eq_some_iff.1 hv).1;rw [z09] at this;exact this
   have h1:=(hf2 i hi).2 j hj;rw [z1w,z1w] at h1;rw [z16 _ _ _ _ hj] at hv;rw [h1,<-hv]
end Go.Proofs.YtnimaaflmdoaaaaGreatDoor.HX
