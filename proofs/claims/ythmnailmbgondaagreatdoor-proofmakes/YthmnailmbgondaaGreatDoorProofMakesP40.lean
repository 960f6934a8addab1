/- ProofMakes: part 40. -/
import Derived.Test.YthmnailmbgondaaGreatDoorRows
import Derived.ProofKit
import Derived.LaidMore
import Derived.Stop.Joined
import Derived.Test.YthmnailmbgondaaGreatDoorProofMakesP36
import Derived.Test.YthmnailmbgondaaGreatDoorProofMakesP39
set_option maxHeartbeats 16000000
namespace Go.Proofs.YthmnailmbgondaaGreatDoor
open Go.RowKit
set_option maxRecDepth 100000
theorem zci {α:Type} (p q r s a:α):∀ x,x<4->UPD (V4 p q r s) 3 a x=V4 p q r a x:=z1y rfl rfl rfl rfl
theorem FST.last {w0 W:World} {B b1 b2 m3 b3 b4:Nat} {p q r s a:Value} {i j k l b:Nat} {x y z u t:List Value} (h:FST w0 W B b1 b2 m3 b3 b4 (UPD (V4 p q r s) 3 a) (UPD (V4 i j k l) 3 b) (UPD (V4 x y z u) 3 t)):FST w0 W B b1 b2 m3 b3 b4 (V4 p q r a) (V4 i j k b) (V4 x y z t):=
 ⟨h.fam.same (zci _ _ _ _ _) (zci _ _ _ _ _) (zci _ _ _ _ _),h.kept,h.bel,h.big⟩
theorem z3M (V:Int) (P:List Nat):KOF V P<=P.length:=by
 unfold KOF;split <;> omega
theorem FST.drawn {w0 W:World} {B b1 b2 m3 b3 b4:Nat} {v:Nat->Value} {n:Nat->Nat} {xs:Nat->List Value} (h:FST w0 W B b1 b2 m3 b3 b4 v n xs):FST w0 W.drew B b1 b2 m3 b3 b4 v n xs:=
 ⟨h.fam.below (Below.refl _ _).drew,h.kept,h.bel.drew,h.big⟩
def LFP (lv:List Int) (i:Nat):Nat->Nat:=FNC (HSH lv i)
theorem z9f {lv:List Int} {nl i:Nat} (hl:HSS nl lv) (hi:i<nl):IsH (HSH lv i):=⟨z1x hl.1 hi,fun x hx=>hl.2 x (List.mem_of_mem_drop (List.mem_of_mem_take hx))⟩
theorem zcj {d:Int} {lv:List Int} {nl:Nat} (hl:HSS nl lv) {i:Nat} (hi:i<nl):TVAL d (LFP lv) 0 i=HSH lv i:=by
 show LST (FNC (HSH lv i))=HSH lv i;exact zaM (z9f hl hi)
theorem Aside.put {p:Prop} (h:p):Aside p:=h
theorem za8 (d:Int) (al:Option Addr) (nl cl:Nat) (ad:Option Addr) (m cd:Nat) (I M N:Nat) (w:World) (h:¬ (nl<=300/\m<=300)):
  Calls Tryz.prog 3 #[.int .i64 d,.slice al nl cl,.slice ad m cd,.int .u64 (I:Int),.int .u64 (M:Int),.int .u64 (N:Int)] w fun e w'=>e=.returned (.bool true)/\Below w.heap.size w w':=by
 by_cases hn:(300:Int)<(nl:Int)
 ·clear h
  go_enter Tryz.func3,Tryz.ntmps3;go_wp2_with fail
  go_ret;exact ⟨rfl,Below.refl _ _⟩
 ·have hm:(300:Int)<(m:Int):=by omega
  clear h;go_enter Tryz.func3,Tryz.ntmps3;go_wp2_with fail
  go_ret;exact ⟨rfl,Below.refl _ _⟩
theorem za9 (d:Int) (al:Option Addr) (nl cl:Nat) (lv:List Int) (ad:Option Addr) (m cd:Nat) (R:List Nat) (I M N:Nat) (w:World) (hFl:Flat w al nl lv) (hr:R.length=m) (hR:NUML w ad R) (hxr:∀ x∈R,x<2 ^ 64) (hnl:nl<=300) (hm:m<=300) (hT:Tabled w) (hX:HX.Tabled w) (h0:2<w.heap.size):
    Calls Tryz.prog 3 #[.int .i64 d,.slice al nl cl,.slice ad m cd,.int .u64 (I:Int),.int .u64 (M:Int),.int .u64 (N:Int)] w fun e w'=>e=.returned (.bool true)/\Below w.heap.size w w':=by
  have cn:=HX.zbG d 2 (by decide) w;have i1:¬ (300:Int)<(nl:Int):=by omega
  have i2:¬ (300:Int)<(m:Int):=by omega
  have HD:Aside (R.length=m/\NUML w ad R/\(∀ x∈R,x<2 ^ 64)/\m<=300):=⟨hr,hR,hxr,hm⟩
  have HF:Aside (Flat w al nl lv/\HSS nl lv/\nl<=300):=⟨hFl,⟨hFl.1,hFl.2.2⟩,hnl⟩
  have tab:Aside (∀ W,Below w.heap.size w W->Tabled W/\HX.Tabled W/\0<W.heap.size):=fun W hb=>⟨hT.below (by omega) hb,hX.below hb,by have:=hb.size;omega⟩
  have GB:Aside (1<w.heap.size):=hX.2.2;clear hFl hnl hm hr hR hxr hT hX h0;go_enter Tryz.func3,Tryz.ntmps3;go_wp2_with fail
  refine cn.mono ?_;rintro e w1 ⟨g,rfl,hg,hH,hb1⟩;clear cn i1 i2;have A1:Aside (HX.FOREST w1 w.heap.size g d 2 0 (fun _=>none) (LFP lv)/\Below w.heap.size w w1/\HX.Has w1 g (HX.z6h d 2) 73/\w.heap.size<=g):=⟨HX.FOREST.new hH (by decide) hg (LFP lv),hb1,hH,hg⟩
  have HG:Aside (w.heap.size<=g):=hg;clear hg hH hb1;have ct:=z4V g w1;go_wp2_with fail
  refine ct.mono ?_;rintro e w1' ⟨rfl,rfl⟩;clear ct;have co:=zhv d (TVAL d (LFP lv)) al nl cl lv w1 (HF.out.1.below A1.out.2.1) (by have:=HF.out;omega) (fun i hi=>zcj HF.out.2.1 hi) (fun h k hk=>by rw [zdI,zdT]) (fun h k hk=>zaU (fun i hi j=>z6x (z9f HF.out.2.1 hi) j) hk);generalize ((HX.WID d:Nat):Int)=D at *
  go_wp2_with fail
  refine co.mono ?_;rintro e w2 ⟨gt,gs,l,a,c,rfl,hRT,hlen,hnode,hb2⟩;clear co;have HN:Aside (l.length=z01 nl/\∀ h k,(k+1)*2 ^ h<=nl->l[PLC h k]?=some ⟨TVAL d (LFP lv) h k,true,0⟩):=⟨hlen,hnode⟩
  obtain ⟨B2,hB2⟩:∃ B2,w1.heap.size=B2:=⟨_,rfl⟩
  have A2:Aside (HX.FOREST w2 w.heap.size g d 2 0 (fun _=>none) (LFP lv)/\SIDES w w2 g (fun _=>none) B2 gt gs D nl l a c):=by
    rw [<-hB2];exact ⟨A1.out.1.below hb2,zdP A1.out.2.2.1 A1.out.2.1 hRT hb2⟩
  clear hRT hlen hnode hb2 A1 hB2;go_wp2_with fail
  go_loopg [16] nl (fun r s14 wx=>∃ (i:Nat) (C:HX.z02),s14=.int .i64 (i:Int)/\Aside (i+r=nl/\HX.FOREST wx w.heap.size g d 2 i C (LFP lv)/\SIDES w wx g C B2 gt gs D nl l a c))
  case atStart=>exact ⟨0,_,rfl,by omega,A2.out⟩
  case round=>
    obtain ⟨i,C,rfl,A⟩:=hrel;clear A2;cases gk with
    | succ r=>
      have hin:i<nl:=by have:=A.out.1;omega
      have hlt:(i:Int)<(nl:Int):=by omega
      obtain ⟨lb,lo,rfl,hlb,_⟩:=HF.out.1.2.1 (by omega);have hrg:wr.rangeAt lb (lo+i*32) (z00 (HSH lv i)):=(HF.out.1.below A.out.2.2.bel).at hin;have hI:=z9f HF.out.2.1 hin;have cA:=HX.zdU A.out.2.1 (LFP lv i) (fun j=>z6x hI j) (by have:=HF.out;omega) (tab.out wr A.out.2.2.bel).2.1 GB.out A.out.2.2.bel.size;have h32:=hI.1;rw [show HX.UARR .u8 32 (LFP lv i)=(z00 (HSH lv i)).toArray from (z4h hI).symm] at cA;have ei:wrap64 ((i:Int)+1)=((i+1:Nat):Int):=by have:=HF.out;unfold wrap64;omega
      have A3:Aside (i+1+r=nl):=by have:=A.out.1;show i+1+r=nl;clear ei;omega
      clear hin hlb hI;go_wp2_with (refine wpList_load_mid rfl 35 (.tmp 71) rfl lb (lo+i*32) rfl (z00 (HSH lv i)) _ hrg Tryz.underlying35 rfl (z0v h32) ?_)
      refine cA.mono ?_;rintro e w3 ⟨rfl,C',a1,a2,a3⟩
      have A4:Aside (HX.FOREST w3 w.heap.size g d 2 (i+1) C' (LFP lv)/\SIDES w w3 g C' B2 gt gs D nl l a c):=by
        refine ⟨a1.congr fun k hk=>?_,A.out.2.2.step a2 a3⟩;unfold HX.z0D;split
        · rename_i e;rw [e]
        · rfl
      clear cA hrg a1 a2 a3 A;go_wp2_with fail
      go_roundg r
      case measure=>exact Nat.lt_succ_self _
      case rel=>exact ⟨i+1,C',by first | rfl | (rw [ei]),A3.out,A4.out⟩
    | zero=>
      obtain rfl:i=nl:=by have:=A.out.1;omega
      have hlt:¬ (i:Int)<(i:Int):=by omega
      have A5:Aside (BOTHD w wr g 2 (z01 i) (z01 i) B2 gt gs D i a c l C (z01 i)):=zgN A.out.2.1 A.out.2.2 HN.out.1 HN.out.2;have HN2:Aside (z01 i<2 ^ 40):=by show z01 i<2 ^ 40;have:=HF.out;unfold z01;omega
      clear A HN HF GB;go_wp2_with fail
      clear hlt;generalize i=nl at *
      go_loopg [17] m (fun r s15 wx=>∃ (i:Nat) (l':List RND) (C:HX.z02) (al':Nat),s15=.int .i64 (i:Int)/\Aside (i+r=m/\BOTHD w wx g 2 (z01 nl) (z01 nl) B2 gt gs D nl a c l' C al'))
      case atStart=>exact ⟨0,l,C,_,rfl,by omega,A5.out⟩
      case round=>
        obtain ⟨i,l',C,al',rfl,A⟩:=hrel;clear A5;cases gk with
        | succ r=>
          have hin:i<m:=by have:=A.out.1;omega
          have hlt:(i:Int)<(m:Int):=by omega
          obtain ⟨x,ex⟩:∃ x,R[i]?=some x:=⟨_,List.getElem?_eq_getElem (by have:=HD.out;omega)⟩
          obtain ⟨db,dof,rfl,hdb,hdc⟩:=HD.out.2.1 (by have:=HD.out;omega);have x64:=HD.out.2.2.1 x (List.mem_of_getElem? ex);have CD:Aside (∀ W,Below w.heap.size w W->W.cell? ⟨db,dof+i,none⟩=some (.int .u64 (x:Int))):=fun W hb=>(hb.cell (p:=⟨db,dof+i,none⟩) hdb).trans (hdc i x ex);have ei:wrap64 ((i:Int)+1)=((i+1:Nat):Int):=by have:=HD.out;unfold wrap64;omega
          have A3:Aside (i+1+r=m):=by have:=A.out.1;show i+1+r=m;clear ei;omega
          have B0:BOTHD w wr.drew g 2 (z01 nl) (z01 nl) B2 gt gs D nl a c l' C al':=A.out.2.below (Below.refl _ _).drew;clear hin hdb hdc ex A;go_upto_region 14 with fail
          refine zfC wr g gt gs db dof m cd i x (RDRP l' x) hlt (fun W=>BOTHD w W g 2 (z01 nl) (z01 nl) B2 gt gs D nl a c l' C al') (fun W=>zc9 w W g 2 (z01 nl) (z01 nl) B2 gt gs D nl a c l' x) (fun W=>∃ l2 C2 al2,BOTHD w W g 2 (z01 nl) (z01 nl) B2 gt gs D nl a c l2 C2 al2) B0 (fun W h=>⟨h.sd.rt.box.cell 2,CD.out W h.sd.bel⟩) (fun W h=>?_) (fun W h=>?_) (fun W h=>(z4V g W).mono fun e W' he=>⟨he.1,he.2 ▸ h⟩) (fun W h=>zca h x x64 HG.out HN2.out) (fun W h=>za5 x h) (fun _ _ _ _ _ h=>h) ?_
          · obtain ⟨C2,al2,_,k2,_⟩:=h
            exact ⟨k2.rt.box.cell 2,CD.out W k2.bel⟩
          · obtain ⟨l2,C2,al2,k2⟩:=h
            exact ⟨k2.sd.rt.box.cell 2,CD.out W k2.sd.bel⟩
          rintro w3 ⟨l2,C2,al2,k2⟩;have A4:Aside (BOTHD w w3 g 2 (z01 nl) (z01 nl) B2 gt gs D nl a c l2 C2 al2):=k2;clear B0 k2 CD x64;dsimp only;go_wp2_with fail
          go_roundg r
          case measure=>exact Nat.lt_succ_self _
          case rel=>exact ⟨i+1,l2,C2,al2,by first | rfl | (rw [ei]),A3.out,A4.out⟩
        | zero=>
          obtain rfl:i=m:=by have:=A.out.1;omega
          have hlt:¬ (i:Int)<(i:Int):=by omega
          have S0:Aside (BOTHD w wr g 2 (z01 nl) (z01 nl) B2 gt gs D nl a c l' C al'):=A.out.2;clear A HD HN2 HG;obtain ⟨D1,hD1⟩:∃ x,PLA I N=x:=⟨_,rfl⟩
          obtain ⟨D2,hD2⟩:∃ x,PPA M N=x:=⟨_,rfl⟩
          have HP:Aside (D1.2.length<=188/\D2.2.length<=188):=by rw [<-hD1,<-hD2];exact ⟨zaJ _ _,zaK _ _⟩
          have MK1:Aside (∀ W,BOTHD w W g 2 (z01 nl) (z01 nl) B2 gt gs D nl a c l' C al'->Calls Tryz.prog 13 #[.iface 25 (.pointer (some ⟨g,0,none⟩)),.int .u64 (I:Int),.int .u64 (N:Int)] W (TMADE W (fun p=>(RGOT l' p).2) (fun p=>(RGOT l' p).1) D1 N I)):=fun W hB=>by
            rw [<-hD1];have tb:=tab.out W hB.sd.bel;exact zfA N I g _ _ (fun p=>z5S hB.sd.rt.store.is p) W (hB.noded _ (zhz I N)) tb.1 tb.2.2
          have MK2:Aside (∀ W,BOTHD w W g 2 (z01 nl) (z01 nl) B2 gt gs D nl a c l' C al'->Calls Tryz.prog 16 #[.iface 25 (.pointer (some ⟨g,0,none⟩)),.int .u64 (M:Int),.int .u64 (N:Int)] W (TMADE W (fun p=>(RGOT l' p).2) (fun p=>(RGOT l' p).1) D2 M N)):=fun W hB=>by
            rw [<-hD2];have tb:=tab.out W hB.sd.bel;exact z7a M N g _ _ (fun p=>z5S hB.sd.rt.store.is p) W (hB.noded _ (zhA M N)) tb.1 tb.2.2
          have PF1:Aside (∀ W,Calls Tryz.prog 11 #[.int .u64 (I:Int),.int .u64 (N:Int)] W fun e w'=>∃ v,e=.returned (.tuple #[v,.int .i64 D1.1])/\w'.ownsRow W.heap.size 24 1 v D1.2.length (z06 D1.2)/\Below W.heap.size W w'):=fun W=>by rw [<-hD1];exact zdv I N W
          have PF2:Aside (∀ W,Calls Tryz.prog 15 #[.int .u64 (M:Int),.int .u64 (N:Int)] W fun e w'=>∃ v,e=.returned (.tuple #[v,.int .i64 D2.1])/\w'.ownsRow W.heap.size 24 1 v D2.2.length (z06 D2.2)/\Below W.heap.size W w'):=fun W=>by rw [<-hD2];exact zdw M N W
          clear hD1 hD2;obtain ⟨E1,P1⟩:=D1;obtain ⟨E2,P2⟩:=D2;dsimp only at HP PF1 PF2;have cp:=PF1.out wr;go_wp2_with fail
          refine cp.mono ?_;rintro e w3 ⟨vp,rfl,op,hb3⟩;clear cp;obtain ⟨ap,kp,rfl,_,_⟩:=z4j op;have S3:Aside (BOTHD w w3 g 2 (z01 nl) (z01 nl) B2 gt gs D nl a c l' C al'/\NUML w3 ap P1/\Below wr.heap.size wr w3):=⟨S0.out.below hb3,z9a op rfl,hb3⟩
          clear op hb3;go_upto_if 105 with fail
          go_cut [19,20] from 97 to 111 (fun sv sl W=>∃ (V:Int) (oa:Option Addr) (K oc:Nat),sv=.int .i64 V/\sl=.slice oa K oc/\Aside (Below wr.heap.size wr W/\ASKD w W l' E1 P1 V oa K oc))
          case first=>
            have hb4:Below w3.heap.size w3 (w3.alloc (.cells #[] 35)):=(Below.refl _ _).alloc (Nat.le_refl _) _;have S4:Aside (BOTHD w (w3.alloc (.cells #[] 35)) g 2 (z01 nl) (z01 nl) B2 gt gs D nl a c l' C al'/\NUML (w3.alloc (.cells #[] 35)) ap P1/\Below wr.heap.size wr (w3.alloc (.cells #[] 35))/\w3.heap.size<(w3.alloc (.cells #[] 35)).heap.size):=⟨S3.out.1.below hb4,S3.out.2.1.keep hb4,S3.out.2.2.trans (hb4.mono S3.out.2.2.size),by simp⟩
            clear hb4;generalize w3.alloc (.cells #[] 35)=w4 at *
            by_cases hE0:E1=0
            · have HE:Aside (E1=0):=hE0
              have ca:=zdL S4.out.1.sd.rt P1 ap P1.length kp rfl S4.out.2.1 (by have:=HP.out;omega);rw [hE0];clear hE0;go_wp2_with fail
              refine ca.mono ?_;rintro e w5 h5;clear ca;obtain ⟨hb5,h5⟩:=zaW h5;have S5:Aside (Below wr.heap.size wr w5):=S4.out.2.2.1.trans (hb5.mono S4.out.2.2.1.size);rcases h5 with ⟨hV,rfl⟩ | ⟨hV,ol,oc,rfl,o5⟩
              · have Z:Aside (ASKD w w5 l' E1 P1 (FSTE (fun p=>(RGOT l' p).1) P1) none 0 0):=z4n (by unfold WNT;rw [if_pos HE.out]) hV (fun x e=>by cases e)
                clear hV hb5 S4;generalize FSTE (fun p=>(RGOT l' p).1) P1=V at *
                go_wp2_with fail
                go_meet
                case rel=>exact ⟨V,none,0,0,rfl,rfl,S5.out,Z.out⟩
              · have Z:Aside (ASKD w w5 l' E1 P1 0 ol P1.length oc):=⟨by unfold WNT;rw [if_pos HE.out];exact hV,if_pos rfl,by unfold ZOF;rw [if_pos rfl];exact z25 o5 (z4U S4.out.1.byte P1),fun x e=>(o5.lt x.block (by rw [e];rfl)).2⟩
                clear hV hb5 S4 o5;go_wp2_with fail
                go_meet
                case rel=>exact ⟨0,ol,P1.length,oc,rfl,rfl,S5.out,Z.out⟩
            · have hne:(E1 == 0)=false:=beq_eq_false_iff_ne.2 hE0
              have Z:Aside (ASKD w w4 l' E1 P1 E1 (some ⟨w3.heap.size,0,none⟩) 0 0):=z4n (if_neg hE0) hE0 (fun x e=>by cases e;exact S4.out.2.2.2);clear hE0;go_wp2_with fail
              go_meet
              case rel=>exact ⟨E1,some ⟨w3.heap.size,0,none⟩,0,0,rfl,rfl,S4.out.2.2.1,Z.out⟩
          case rest =>
            obtain ⟨V1,oa1,K1,oc1,rfl,rfl,hc⟩:=hcut;clear S3;have A1:Aside (Below wr.heap.size wr wc/\ASKD w wc l' E1 P1 V1 oa1 K1 oc1/\BOTHD w wc g 2 (z01 nl) (z01 nl) B2 gt gs D nl a c l' C al'):=⟨hc.out.1,hc.out.2,S0.out.below hc.out.1⟩
            clear hc;obtain ⟨W1,hW1⟩:∃ x,wc=x:=⟨_,rfl⟩
            rw [hW1] at A1;rw [hW1];clear hW1;have ck:=MK1.out W1 A1.out.2.2;go_wp2_with fail
            refine ck.mono ?_;rintro e w5 h5;clear ck;obtain ⟨hb5,X1,Y1,a1,c1,rfl,o1,hx1⟩:=z2K h5;dsimp only at o1 hx1;dsimp only;rw [A1.out.2.1.err,A1.out.2.1.len] at o1;rw [A1.out.2.1.err] at hx1;rw [A1.out.2.1.err,A1.out.2.1.len];clear h5;go_upto_region 21 with fail
            obtain ⟨w6,e6⟩:∃ x,w5.alloc (.cells #[.int .u64 (X1:Int),.int .u64 (Y1:Int),.slice a1 K1 c1] 45)=x:=⟨_,rfl⟩
            rw [e6];have hb6:Below w5.heap.size w5 w6:=by rw [<-e6];exact (Below.refl _ _).alloc (Nat.le_refl _) _
            have B6:Aside (Below W1.heap.size W1 w6/\Below W1.heap.size W1 w5/\w5.ownsRow W1.heap.size 35 32 (.slice a1 K1 c1) K1 (z00 (ZOF V1 (fun p=>(RGOT l' p).2) P1))/\w5.alloc (.cells #[.int .u64 (X1:Int),.int .u64 (Y1:Int),.slice a1 K1 c1] 45)=w6):=⟨hb5.trans (hb6.mono hb5.size),hb5,o1,e6⟩
            have ck:=MK1.out w6 (A1.out.2.2.below B6.out.1);obtain ⟨b1,hb1⟩:∃ x,w5.heap.size=x:=⟨_,rfl⟩
            rw [hb1];have HX1:Aside (w5.heap.size=b1/\(V1=0->X1=N/\Y1=I)):=⟨hb1,hx1⟩
            clear e6 hb6 hb5 o1 hx1 hb1;go_wp2_with fail
            refine ck.mono ?_;rintro e w7 h7;clear ck;obtain ⟨hb7,X2,Y2,a2,c2,rfl,o2,hx2⟩:=z2K h7;dsimp only at o2 hx2;dsimp only;rw [A1.out.2.1.err,A1.out.2.1.len] at o2;rw [A1.out.2.1.err] at hx2;rw [A1.out.2.1.err,A1.out.2.1.len];clear h7;go_upto_region 22 with fail
            obtain ⟨w8,e8⟩:∃ x,w7.alloc (.cells #[.int .u64 (X2:Int),.int .u64 (Y2:Int),.slice a2 K1 c2] 45)=x:=⟨_,rfl⟩
            rw [e8];obtain ⟨b2,hb2⟩:∃ x,w7.heap.size=x:=⟨_,rfl⟩
            rw [hb2]
            have P8:Aside (PMS w8 W1.heap.size W1.heap.size b1 b2 45 K1 (ZOF V1 (fun p=>(RGOT l' p).2) P1) X1 Y1 X2 Y2 a1 a2 c1 c2/\Below W1.heap.size W1 w8):=by
              have z:=zdQ (wB:=W1) (Nat.le_refl _) B6.out.2.1 B6.out.2.2.1 B6.out.2.2.2 hb7 o2 e8;rw [HX1.out.1,hb2] at z;exact z
            have HX2:Aside ((V1=0->X1=N/\Y1=I)/\(V1=0->X2=N/\Y2=I)):=⟨HX1.out.2,hx2⟩
            clear e8 hb2 hb7 o2 hx2 HX1 B6;go_cut [177] from 128 to 177 (fun sc W=>sc=.bool false/\Aside (Below w8.heap.size w8 W))
            case first=>
              have cs:=z1A a1 oa1 K1 K1 c1 oc1 _ _ w8 (z25 P8.out.1.o1 (z3g A1.out.2.2.byte P1)) (A1.out.2.1.flat.below P8.out.2) (by have h1:=A1.out.2.1.len;have h2:=z3M V1 P1;have:=HP.out;omega);rw [decide_eq_true rfl] at cs;have x2:=P8.out.1.h1.cell 2;go_wp2_with fail
              refine cs.mono ?_;rintro e w9 ⟨rfl,hb9⟩;clear cs x2;have P9:=P8.out.1.below hb9;have cs:=z1A a2 oa1 K1 K1 c2 oc1 _ _ w9 (z25 P9.o2 (z3g A1.out.2.2.byte P1)) ((A1.out.2.1.flat.below P8.out.2).below hb9) (by have h1:=A1.out.2.1.len;have h2:=z3M V1 P1;have:=HP.out;omega);rw [decide_eq_true rfl] at cs;have x2:=P9.h2.cell 2;have B9:Aside (Below w8.heap.size w8 w9):=hb9;clear P9 hb9;go_wp2_with fail
              refine cs.mono ?_;rintro e w10 ⟨rfl,hb10⟩;clear cs x2;have B10:Aside (Below w8.heap.size w8 w10):=B9.out.trans (hb10.mono B9.out.size);clear hb10 B9;by_cases hV:V1=0
              · obtain ⟨q1,q2⟩:=HX2.out.1 hV
                obtain ⟨q3,q4⟩:=HX2.out.2 hV;have P10:=P8.out.1.below B10.out;rw [q1,q2,q3,q4] at P10;have x0:=P10.h1.cell 0;have x1:=P10.h1.cell 1;have z0:=P10.h2.cell 0;have z1:=P10.h2.cell 1;have hVe:(V1 == 0)=true:=by rw [hV];rfl
                clear P10 q1 q2 q3 q4 hV;go_wp2_with fail
                go_meet
                case rel=>exact ⟨rfl,B10.out⟩
              · have hVe:(V1 == 0)=false:=beq_eq_false_iff_ne.2 hV
                clear hV;go_wp2_with fail
                go_meet
                case rel=>exact ⟨rfl,B10.out⟩
            case rest=>
              obtain ⟨rfl,hc⟩:=hcut;have R1:Aside (PMS wc W1.heap.size W1.heap.size b1 b2 45 K1 (ZOF V1 (fun p=>(RGOT l' p).2) P1) X1 Y1 X2 Y2 a1 a2 c1 c2/\Below W1.heap.size W1 wc):=⟨P8.out.1.below hc.out,P8.out.2.trans (hc.out.mono P8.out.2.size)⟩
              clear hc P8 HX2;obtain ⟨U1,hU1⟩:∃ x,wc=x:=⟨_,rfl⟩
              rw [hU1] at R1;rw [hU1];clear hU1;have SU1:Aside (BOTHD w U1 g 2 (z01 nl) (z01 nl) B2 gt gs D nl a c l' C al'):=A1.out.2.2.below R1.out.2;have LO2:Aside (∀ x,U1.heap.size<=x->W1.heap.size<=x):=fun x h=>Nat.le_trans R1.out.2.size h;have cp:=PF2.out U1;go_wp2_with fail
              refine cp.mono ?_;rintro e w3 ⟨vp,rfl,op,hb3⟩;clear cp;obtain ⟨ap,kp,rfl,_,_⟩:=z4j op;have S3:Aside (BOTHD w w3 g 2 (z01 nl) (z01 nl) B2 gt gs D nl a c l' C al'/\NUML w3 ap P2/\Below U1.heap.size U1 w3):=⟨SU1.out.below hb3,z9a op rfl,hb3⟩
              clear op hb3;go_upto_if 186 with fail
              go_cut [25,26] from 178 to 192 (fun sv sl W=>∃ (V:Int) (oa:Option Addr) (K oc:Nat),sv=.int .i64 V/\sl=.slice oa K oc/\Aside (Below U1.heap.size U1 W/\ASKD w W l' E2 P2 V oa K oc))
              case first=>
                have hb4:Below w3.heap.size w3 (w3.alloc (.cells #[] 35)):=(Below.refl _ _).alloc (Nat.le_refl _) _;have S4:Aside (BOTHD w (w3.alloc (.cells #[] 35)) g 2 (z01 nl) (z01 nl) B2 gt gs D nl a c l' C al'/\NUML (w3.alloc (.cells #[] 35)) ap P2/\Below U1.heap.size U1 (w3.alloc (.cells #[] 35))/\w3.heap.size<(w3.alloc (.cells #[] 35)).heap.size):=⟨S3.out.1.below hb4,S3.out.2.1.keep hb4,S3.out.2.2.trans (hb4.mono S3.out.2.2.size),by simp⟩
                clear hb4;generalize w3.alloc (.cells #[] 35)=w4 at *
                by_cases hE0:E2=0
                · have HE:Aside (E2=0):=hE0
                  have ca:=zdL S4.out.1.sd.rt P2 ap P2.length kp rfl S4.out.2.1 (by have:=HP.out;omega);rw [hE0];clear hE0;go_wp2_with fail
                  refine ca.mono ?_;rintro e w5 h5;clear ca;obtain ⟨hb5,h5⟩:=zaW h5;have S5:Aside (Below U1.heap.size U1 w5):=S4.out.2.2.1.trans (hb5.mono S4.out.2.2.1.size);rcases h5 with ⟨hV,rfl⟩ | ⟨hV,ol,oc,rfl,o5⟩
                  · have Z:Aside (ASKD w w5 l' E2 P2 (FSTE (fun p=>(RGOT l' p).1) P2) none 0 0):=z4n (by unfold WNT;rw [if_pos HE.out]) hV (fun x e=>by cases e)
                    clear hV hb5 S4;generalize FSTE (fun p=>(RGOT l' p).1) P2=V at *
                    go_wp2_with fail
                    go_meet
                    case rel=>exact ⟨V,none,0,0,rfl,rfl,S5.out,Z.out⟩
                  · have Z:Aside (ASKD w w5 l' E2 P2 0 ol P2.length oc):=⟨by unfold WNT;rw [if_pos HE.out];exact hV,if_pos rfl,by unfold ZOF;rw [if_pos rfl];exact z25 o5 (z4U S4.out.1.byte P2),fun x e=>(o5.lt x.block (by rw [e];rfl)).2⟩
                    clear hV hb5 S4 o5;go_wp2_with fail
                    go_meet
                    case rel=>exact ⟨0,ol,P2.length,oc,rfl,rfl,S5.out,Z.out⟩
                · have hne:(E2 == 0)=false:=beq_eq_false_iff_ne.2 hE0
                  have Z:Aside (ASKD w w4 l' E2 P2 E2 (some ⟨w3.heap.size,0,none⟩) 0 0):=z4n (if_neg hE0) hE0 (fun x e=>by cases e;exact S4.out.2.2.2);clear hE0;go_wp2_with fail
                  go_meet
                  case rel=>exact ⟨E2,some ⟨w3.heap.size,0,none⟩,0,0,rfl,rfl,S4.out.2.2.1,Z.out⟩
              case rest=>
                obtain ⟨V2,oa2,K2,oc2,rfl,rfl,hc⟩:=hcut;clear S3;have A2:Aside (Below U1.heap.size U1 wc/\ASKD w wc l' E2 P2 V2 oa2 K2 oc2/\BOTHD w wc g 2 (z01 nl) (z01 nl) B2 gt gs D nl a c l' C al'):=⟨hc.out.1,hc.out.2,SU1.out.below hc.out.1⟩
                clear hc;obtain ⟨W2,hW2⟩:∃ x,wc=x:=⟨_,rfl⟩
                rw [hW2] at A2;rw [hW2];clear hW2;have ck:=MK2.out W2 A2.out.2.2;go_wp2_with fail
                refine ck.mono ?_;rintro e w5 h5;clear ck;obtain ⟨hb5,X3,Y3,a3,c3,rfl,o3,hx1⟩:=z2K h5;dsimp only at o3 hx1;dsimp only;rw [A2.out.2.1.err,A2.out.2.1.len] at o3;rw [A2.out.2.1.err] at hx1;rw [A2.out.2.1.err,A2.out.2.1.len];clear h5;go_upto_region 29 with fail
                obtain ⟨w6,e6⟩:∃ x,w5.alloc (.cells #[.int .u64 (X3:Int),.int .u64 (Y3:Int),.slice a3 K2 c3] 50)=x:=⟨_,rfl⟩
                rw [e6];have hb6:Below w5.heap.size w5 w6:=by rw [<-e6];exact (Below.refl _ _).alloc (Nat.le_refl _) _
                have B6:Aside (Below W2.heap.size W2 w6/\Below W2.heap.size W2 w5/\w5.ownsRow W2.heap.size 35 32 (.slice a3 K2 c3) K2 (z00 (ZOF V2 (fun p=>(RGOT l' p).2) P2))/\w5.alloc (.cells #[.int .u64 (X3:Int),.int .u64 (Y3:Int),.slice a3 K2 c3] 50)=w6):=⟨hb5.trans (hb6.mono hb5.size),hb5,o3,e6⟩
                have ck:=MK2.out w6 (A2.out.2.2.below B6.out.1);obtain ⟨b3,hb3⟩:∃ x,w5.heap.size=x:=⟨_,rfl⟩
                rw [hb3];have HX3:Aside (w5.heap.size=b3/\(V2=0->X3=M/\Y3=N)):=⟨hb3,hx1⟩
                clear e6 hb6 hb5 o3 hx1 hb3;go_wp2_with fail
                refine ck.mono ?_;rintro e w7 h7;clear ck;obtain ⟨hb7,X4,Y4,a4,c4,rfl,o4,hx2⟩:=z2K h7;dsimp only at o4 hx2;dsimp only;rw [A2.out.2.1.err,A2.out.2.1.len] at o4;rw [A2.out.2.1.err] at hx2;rw [A2.out.2.1.err,A2.out.2.1.len];clear h7;go_upto_region 30 with fail
                obtain ⟨w8,e8⟩:∃ x,w7.alloc (.cells #[.int .u64 (X4:Int),.int .u64 (Y4:Int),.slice a4 K2 c4] 50)=x:=⟨_,rfl⟩
                rw [e8];obtain ⟨b4,hb4⟩:∃ x,w7.heap.size=x:=⟨_,rfl⟩
                rw [hb4]
                have P8:Aside (PMS w8 W1.heap.size W2.heap.size b3 b4 50 K2 (ZOF V2 (fun p=>(RGOT l' p).2) P2) X3 Y3 X4 Y4 a3 a4 c3 c4/\Below W2.heap.size W2 w8):=by
                  have z:=zdQ (wB:=W1) (LO2.out _ A2.out.1.size) B6.out.2.1 B6.out.2.2.1 B6.out.2.2.2 hb7 o4 e8;rw [HX3.out.1,hb4] at z;exact z
                have HX2:Aside ((V2=0->X3=M/\Y3=N)/\(V2=0->X4=M/\Y4=N)):=⟨HX3.out.2,hx2⟩
                clear e8 hb4 hb7 o4 hx2 HX3 B6;go_cut [246] from 209 to 246 (fun sc W=>sc=.bool false/\Aside (Below w8.heap.size w8 W))
                case first=>
                  have cs:=z1A a3 oa2 K2 K2 c3 oc2 _ _ w8 (z25 P8.out.1.o1 (z3g A2.out.2.2.byte P2)) (A2.out.2.1.flat.below P8.out.2) (by have h1:=A2.out.2.1.len;have h2:=z3M V2 P2;have:=HP.out;omega);rw [decide_eq_true rfl] at cs;have x2:=P8.out.1.h1.cell 2;go_wp2_with fail
                  refine cs.mono ?_;rintro e w9 ⟨rfl,hb9⟩;clear cs x2;have P9:=P8.out.1.below hb9;have cs:=z1A a4 oa2 K2 K2 c4 oc2 _ _ w9 (z25 P9.o2 (z3g A2.out.2.2.byte P2)) ((A2.out.2.1.flat.below P8.out.2).below hb9) (by have h1:=A2.out.2.1.len;have h2:=z3M V2 P2;have:=HP.out;omega);rw [decide_eq_true rfl] at cs;have x2:=P9.h2.cell 2;have B9:Aside (Below w8.heap.size w8 w9):=hb9;clear P9 hb9;go_wp2_with fail
                  refine cs.mono ?_;rintro e w10 ⟨rfl,hb10⟩;clear cs x2;have B10:Aside (Below w8.heap.size w8 w10):=B9.out.trans (hb10.mono B9.out.size);clear hb10 B9;by_cases hV:V2=0
                  · obtain ⟨q1,q2⟩:=HX2.out.1 hV
                    obtain ⟨q3,q4⟩:=HX2.out.2 hV;have P10:=P8.out.1.below B10.out;rw [q1,q2,q3,q4] at P10;have x0:=P10.h1.cell 0;have x1:=P10.h1.cell 1;have z0:=P10.h2.cell 0;have z1:=P10.h2.cell 1;have hVe:(V2 == 0)=true:=by rw [hV];rfl
                    clear P10 q1 q2 q3 q4 hV;go_wp2_with fail
                    go_meet
                    case rel=>exact ⟨rfl,B10.out⟩
                  · have hVe:(V2 == 0)=false:=beq_eq_false_iff_ne.2 hV
                    clear hV;go_wp2_with fail
                    go_meet
                    case rel=>exact ⟨rfl,B10.out⟩
                case rest=>
                  obtain ⟨rfl,hc⟩:=hcut;have R2:Aside (PMS wc W1.heap.size W2.heap.size b3 b4 50 K2 (ZOF V2 (fun p=>(RGOT l' p).2) P2) X3 Y3 X4 Y4 a3 a4 c3 c4/\Below W2.heap.size W2 wc):=⟨P8.out.1.below hc.out,P8.out.2.trans (hc.out.mono P8.out.2.size)⟩
                  clear hc P8 HX2;obtain ⟨U2,hU2⟩:∃ x,wc=x:=⟨_,rfl⟩
                  rw [hU2] at R2;rw [hU2];clear hU2
                  have S32:Aside (FST U2 U2 W1.heap.size b1 b2 W2.heap.size b3 b4 (V4 (.slice a1 K1 c1) (.slice a2 K1 c2) (.slice a3 K2 c3) (.slice a4 K2 c4)) (V4 K1 K1 K2 K2) (V4 (z00 (ZOF V1 (fun p=>(RGOT l' p).2) P1)) (z00 (ZOF V1 (fun p=>(RGOT l' p).2) P1)) (z00 (ZOF V2 (fun p=>(RGOT l' p).2) P2)) (z00 (ZOF V2 (fun p=>(RGOT l' p).2) P2)))/\W1.heap.size<b4/\b1<b4/\W2.heap.size<=b4/\b3<b4/\Below W1.heap.size W1 U2/\W1.heap.size<=U2.heap.size):=by
                    have p1:=R1.out.1;have p2:=R2.out.1;have hbU:Below U1.heap.size U1 U2:=A2.out.1.trans (R2.out.2.mono A2.out.1.size);have p1':=p1.below hbU;have l1:=p1.lb;have l2:=p2.lb;have hw2:U1.heap.size<=W2.heap.size:=A2.out.1.size;have hw1:W1.heap.size<=U1.heap.size:=R1.out.2.size;refine ⟨⟨zdR p1'.o1 p1'.o2 p2.o1 p2.o2 (fun g e=>(p1.s1 g e).2) p1.s2 p2.s1 p2.s2 ⟨l1.2.1,by omega,l2.1,l2.2.1⟩,fun _ _=>rfl,Below.refl _ _,l2.2.2⟩,by omega,by omega,by omega,l2.2.1,R1.out.2.trans (hbU.mono hw1),by have:=hbU.size;omega⟩
                  have KF:Aside (K1<=188/\K2<=188):=by
                    have h1:=A1.out.2.1.len;have h2:=A2.out.2.1.len;have h3:=HP.out;have h4:=z3M V1 P1;have h5:=z3M V2 P2;exact ⟨by omega,by omega⟩
                  go_upto_region 32 with fail
                  have HS:Aside (∀ (v:Nat->Value) (n:Nat->Nat) (xs:Nat->List Value) (W:World),FST U2 W W1.heap.size b1 b2 W2.heap.size b3 b4 v n xs->W.cell? ⟨b1,2,none⟩=some (.slice a1 K1 c1)/\W.cell? ⟨b2,2,none⟩=some (.slice a2 K1 c2)/\W.cell? ⟨b3,2,none⟩=some (.slice a3 K2 c3)/\W.cell? ⟨b4,2,none⟩=some (.slice a4 K2 c4)):=fun v n xs W h=>by
                    have p1:=R1.out.1.below (A2.out.1.trans (R2.out.2.mono A2.out.1.size));have p2:=R2.out.1;have hl:=R1.out.1.lb;have hw2:U1.heap.size<=W2.heap.size:=A2.out.1.size;refine ⟨?_,?_,?_,?_⟩
                    · exact (World.cell?_of_block (w:=U2) (by exact h.kept b1 (.inr (.inl rfl)))).trans (p1.h1.cell 2)
                    · exact (World.cell?_of_block (w:=U2) (by exact h.kept b2 (.inr (.inr (.inl ⟨Nat.le_refl _,by omega⟩))))).trans (p1.h2.cell 2)
                    · exact (World.cell?_of_block (w:=U2) (by exact h.kept b3 (.inr (.inr (.inr (.inl rfl)))))).trans (p2.h1.cell 2)
                    · exact (World.cell?_of_block (w:=U2) (by exact h.kept b4 (.inr (.inr (.inr (.inr rfl)))))).trans (p2.h2.cell 2)
                  have LT:Aside (W1.heap.size<b4/\b1<b4/\W2.heap.size<=b4/\b3<b4):=⟨S32.out.2.1,S32.out.2.2.1,S32.out.2.2.2.1,S32.out.2.2.2.2.1⟩
                  have SW:Aside (W1.heap.size<=U2.heap.size):=S32.out.2.2.2.2.2.2
                  refine zfD U2 b1 b2 b3 b4 K1 K2 c1 c2 c3 c4 a1 a2 a3 a4 (fun W=>FST U2 W W1.heap.size b1 b2 W2.heap.size b3 b4 (V4 (.slice a1 K1 c1) (.slice a2 K1 c2) (.slice a3 K2 c3) (.slice a4 K2 c4)) (V4 K1 K1 K2 K2) (V4 (z00 (ZOF V1 (fun p=>(RGOT l' p).2) P1)) (z00 (ZOF V1 (fun p=>(RGOT l' p).2) P1)) (z00 (ZOF V2 (fun p=>(RGOT l' p).2) P2)) (z00 (ZOF V2 (fun p=>(RGOT l' p).2) P2))))
                    (fun g1 k1 W=>FST U2 W W1.heap.size b1 b2 W2.heap.size b3 b4 (V4 (.slice (some ⟨g1,0,none⟩) (K1+1+1) k1) (.slice a2 K1 c2) (.slice a3 K2 c3) (.slice a4 K2 c4)) (V4 (K1+1+1) K1 K2 K2) (V4 (z00 (MKS 201 (K1+1+1))) (z00 (ZOF V1 (fun p=>(RGOT l' p).2) P1)) (z00 (ZOF V2 (fun p=>(RGOT l' p).2) P2)) (z00 (ZOF V2 (fun p=>(RGOT l' p).2) P2))))
                    (fun g1 k1 g2 k2 W=>FST U2 W W1.heap.size b1 b2 W2.heap.size b3 b4 (V4 (.slice (some ⟨g1,0,none⟩) (K1+1+1) k1) (.slice (some ⟨g2,0,none⟩) (K1+1+1) k2) (.slice a3 K2 c3) (.slice a4 K2 c4)) (V4 (K1+1+1) (K1+1+1) K2 K2) (V4 (z00 (MKS 201 (K1+1+1))) (z00 (MKS 202 (K1+1+1))) (z00 (ZOF V2 (fun p=>(RGOT l' p).2) P2)) (z00 (ZOF V2 (fun p=>(RGOT l' p).2) P2))))
                    (fun g1 k1 g2 k2 g3 k3 W=>FST U2 W W1.heap.size b1 b2 W2.heap.size b3 b4 (V4 (.slice (some ⟨g1,0,none⟩) (K1+1+1) k1) (.slice (some ⟨g2,0,none⟩) (K1+1+1) k2) (.slice (some ⟨g3,0,none⟩) (K2+1+1) k3) (.slice a4 K2 c4)) (V4 (K1+1+1) (K1+1+1) (K2+1+1) K2) (V4 (z00 (MKS 201 (K1+1+1))) (z00 (MKS 202 (K1+1+1))) (z00 (MKS 203 (K2+1+1))) (z00 (ZOF V2 (fun p=>(RGOT l' p).2) P2))))
                    (fun g1 k1 g2 k2 g3 k3 g4 k4 W=>FST U2 W W1.heap.size b1 b2 W2.heap.size b3 b4 (V4 (.slice (some ⟨g1,0,none⟩) (K1+1+1) k1) (.slice (some ⟨g2,0,none⟩) (K1+1+1) k2) (.slice (some ⟨g3,0,none⟩) (K2+1+1) k3) (.slice (some ⟨g4,0,none⟩) (K2+1+1) k4)) (V4 (K1+1+1) (K1+1+1) (K2+1+1) (K2+1+1)) (V4 (z00 (MKS 201 (K1+1+1))) (z00 (MKS 202 (K1+1+1))) (z00 (MKS 203 (K2+1+1))) (z00 (MKS 204 (K2+1+1)))))
                    (S32.out.1.drawn) (fun W h=>HS.out _ _ _ W h) (fun _ _ W h=>HS.out _ _ _ W h) (fun _ _ _ _ W h=>HS.out _ _ _ W h) (fun _ _ _ _ _ _ W h=>HS.out _ _ _ W h) (fun _ _ _ _ _ _ _ _ W h=>HS.out _ _ _ W h)
                    (fun W h=>(h.mark LT.out SW.out (x:=0) (by decide) (by show K1<=900;have:=KF.out;omega) 201).mono fun e W' he=>?_) (fun g1 k1 W h=>(h.mark LT.out SW.out (x:=1) (by decide) (by show K1<=900;have:=KF.out;omega) 202).mono fun e W' he=>?_) (fun g1 k1 g2 k2 W h=>(h.mark LT.out SW.out (x:=2) (by decide) (by show K2<=900;have:=KF.out;omega) 203).mono fun e W' he=>?_) (fun g1 k1 g2 k2 g3 k3 W h=>(h.mark LT.out SW.out (x:=3) (by decide) (by show K2<=900;have:=KF.out;omega) 204).mono fun e W' he=>?_) (fun _ _ _ _ _ h=>h) ?_
                  · obtain ⟨x,k,e1,h1⟩:=he
                    rw [zcc,zcc,zcc] at h1;exact ⟨x,k,e1,h1⟩
                  · obtain ⟨x,k,e1,h1⟩:=he
                    rw [zcd,zcd,zcd] at h1;exact ⟨x,k,e1,h1⟩
                  · obtain ⟨x,k,e1,h1⟩:=he
                    rw [zce,zce,zce] at h1;exact ⟨x,k,e1,h1⟩
                  · obtain ⟨x,k,e1,h1⟩:=he
                    exact ⟨x,k,e1,h1.last⟩
                  rintro g1 k1 g2 k2 g3 k3 g4 k4 w11 h11;dsimp only;have F11:Aside (FST U2 w11 W1.heap.size b1 b2 W2.heap.size b3 b4 (V4 (.slice (some ⟨g1,0,none⟩) (K1+1+1) k1) (.slice (some ⟨g2,0,none⟩) (K1+1+1) k2) (.slice (some ⟨g3,0,none⟩) (K2+1+1) k3) (.slice (some ⟨g4,0,none⟩) (K2+1+1) k4)) (V4 (K1+1+1) (K1+1+1) (K2+1+1) (K2+1+1)) (V4 (z00 (MKS 201 (K1+1+1))) (z00 (MKS 202 (K1+1+1))) (z00 (MKS 203 (K2+1+1))) (z00 (MKS 204 (K2+1+1))))):=h11;clear h11 HS;have BU:Aside (Below W1.heap.size W1 w11):=S32.out.2.2.2.2.2.1.trans F11.out.bel;have ce:=z59 W1.heap.size g1 (K1+1+1) k1 201 (by have:=KF.out;omega) w11 (F11.out.fam.row 0 (by decide));go_wp2_with fail
                  refine ce.mono ?_;rintro e w12 ⟨rfl,rfl⟩;clear ce;have ce:=z59 W1.heap.size g2 (K1+1+1) k2 202 (by have:=KF.out;omega) w11 (F11.out.fam.row 1 (by decide));go_wp2_with fail
                  refine ce.mono ?_;rintro e w12 ⟨rfl,rfl⟩;clear ce;have ce:=z59 W1.heap.size g3 (K2+1+1) k3 203 (by have:=KF.out;omega) w11 (F11.out.fam.row 2 (by decide));go_wp2_with fail
                  refine ce.mono ?_;rintro e w12 ⟨rfl,rfl⟩;clear ce;have ce:=z59 W1.heap.size g4 (K2+1+1) k4 204 (by have:=KF.out;omega) w11 (F11.out.fam.row 3 (by decide));go_wp2_with fail
                  refine ce.mono ?_;rintro e w12 ⟨rfl,rfl⟩;clear ce;have HB1:Aside (Has w11 b1 #[.int .u64 (X1:Int),.int .u64 (Y1:Int),.slice a1 K1 c1] 45/\W1.heap.size<=b1):=⟨(F11.out.kept b1 (.inr (.inl rfl))).trans (R1.out.1.below (A2.out.1.trans (R2.out.2.mono A2.out.1.size))).h1,R1.out.1.lb.1⟩
                  clear F11 S32 LT SW R2 A2;have ck:=MK1.out w11 (A1.out.2.2.below BU.out);go_wp2_with fail
                  refine ck.mono ?_;rintro e w13 h13;clear ck;obtain ⟨hb13,X5,Y5,a5,c5,rfl,o5,_⟩:=z2K h13;dsimp only at o5;dsimp only;rw [A1.out.2.1.err,A1.out.2.1.len] at o5;rw [A1.out.2.1.err,A1.out.2.1.len];have kb1:=HB1.out.1.keep hb13
                  have Z13:Aside (Below w.heap.size w (w13.setRow b1 #[.int .u64 (X5:Int),.int .u64 (Y5:Int),.slice a5 K1 c5])/\Flat (w13.setRow b1 #[.int .u64 (X5:Int),.int .u64 (Y5:Int),.slice a5 K1 c5]) a5 K1 (ZOF V1 (fun p=>(RGOT l' p).2) P1)/\Flat (w13.setRow b1 #[.int .u64 (X5:Int),.int .u64 (Y5:Int),.slice a5 K1 c5]) oa1 K1 (ZOF V1 (fun p=>(RGOT l' p).2) P1)/\Has (w13.setRow b1 #[.int .u64 (X5:Int),.int .u64 (Y5:Int),.slice a5 K1 c5]) b1 #[.int .u64 (X5:Int),.int .u64 (Y5:Int),.slice a5 K1 c5] 45):=by
                    have h1:Below W1.heap.size W1 w13:=BU.out.trans (hb13.mono BU.out.size);have h0:Below w.heap.size w W1:=A1.out.2.2.sd.bel;have hlt:=HB1.out.1.lt;have oth:BUT b1 w13 (w13.setRow b1 #[.int .u64 (X5:Int),.int .u64 (Y5:Int),.slice a5 K1 c5]):=⟨fun k _ hne=>setRow_other w13 b1 k _ hne,z0d (Below.refl _ _) (Nat.le_refl _) _⟩
                    refine ⟨z0d (h0.trans (h1.mono h0.size)) (by have:=h0.size;have:=HB1.out.2;omega) _,?_,?_,kb1.row _⟩
                    · exact (z25 o5 (z3g A1.out.2.2.byte P1)).but oth (fun x e=>by have:=(o5.lt x.block (by rw [e];rfl)).1;omega)
                    · exact (A1.out.2.1.flat.below h1).but oth (fun x e=>by have:=A1.out.2.1.lt x e;have:=HB1.out.2;omega)
                  clear hb13 o5 h13;go_upto_region 36 with (refine wpList_store_row rfl 45 (.tmp 21) (.tmp 283) rfl _ _ rfl rfl 45 _ kb1 (by kernel_rfl) rfl (by simp [Value.oneCell']) ?_)
                  generalize w13.setRow b1 #[.int .u64 (X5:Int),.int .u64 (Y5:Int),.slice a5 K1 c5]=w14 at *
                  have x2:=Z13.out.2.2.2.cell 2;have cs:=z1A a5 oa1 K1 K1 c5 oc1 _ _ w14 Z13.out.2.1 Z13.out.2.2.1 (by have:=KF.out;omega);rw [decide_eq_true rfl] at cs;clear kb1;go_wp2_with fail
                  refine cs.mono ?_;rintro e w15 ⟨rfl,hb15⟩;clear cs x2;have B15:Aside (Below w.heap.size w w15):=Z13.out.1.trans (hb15.mono Z13.out.1.size);clear hb15 Z13;have ca:=z7S w15 (tab.out w15 B15.out).1 (tab.out w15 B15.out).2.2;go_wp2_with fail
                  refine ca.mono ?_;rintro e w16 ⟨rfl,hb16⟩;clear ca;have FN:Aside (Below w.heap.size w w16):=B15.out.trans (hb16.mono B15.out.size);clear hb16 B15;go_wp2_with fail
                  go_ret;exact ⟨rfl,FN.out⟩
theorem z6J (d:Int) (al:Option Addr) (nl cl:Nat) (lv:List Int) (ad:Option Addr) (m cd:Nat) (R:List Nat) (I M N:Nat) (w:World) (hFl:Flat w al nl lv) (hr:R.length=m) (hR:NUML w ad R) (hxr:∀ x∈R,x<2 ^ 64) (hT:Tabled w) (hX:HX.Tabled w) (h0:2<w.heap.size):
  Calls Tryz.prog 3 #[.int .i64 d,.slice al nl cl,.slice ad m cd,.int .u64 (I:Int),.int .u64 (M:Int),.int .u64 (N:Int)] w fun e w'=>e=.returned (.bool true)/\Below w.heap.size w w':=by
 by_cases h:nl<=300/\m<=300
 ·exact za9 d al nl cl lv ad m cd R I M N w hFl hr hR hxr h.1 h.2 hT hX h0
 ·exact za8 d al nl cl ad m cd I M N w h
end Go.Proofs.YthmnailmbgondaaGreatDoor
namespace Go.Proofs.YthmnailmbgondaaGreatDoor
open Go.ChangeShapes Go.WideShapes Go.ChangeAt Go.WideMaps Go.WideElems Go.RowKit
set_option maxRecDepth 100000
theorem own:ownKnob Tryz.prog.godebug=none:=by kernel_rfl
theorem z7d:laidOutB Tryz.prog=true:=by kernel_rfl
theorem gTab:Tryz.prog.globalNamed "math/bits.deBruijn64tab"=some 2:=by kernel_rfl
theorem tTab:(Tryz.prog.globals[2]?).map (·.type)=some 167:=by kernel_rfl
theorem zgU {H:Type}:(Rows.laid_math_bits_deBruijn64tab:DataW H)=.agg (TAB.map fun n=>.lit (.int .u8 (n:Nat))):=rfl
end Go.Proofs.YthmnailmbgondaaGreatDoor
