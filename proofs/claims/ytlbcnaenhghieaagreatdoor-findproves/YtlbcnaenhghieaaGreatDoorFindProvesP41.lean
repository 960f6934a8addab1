/- FindProves: part 41. -/
import Derived.Deep.CutBlock
import Derived.Test.YtlbcnaenhghieaaGreatDoorRows
import Derived.ProofKit
import Derived.LaidMore
import Derived.Stop.Joined
import Derived.Deep.Strs
import Derived.Test.YtlbcnaenhghieaaGreatDoorFindProvesP40
set_option maxHeartbeats 16000000
namespace Go.Proofs.YtlbcnaenhghieaaGreatDoor
open Go.RowKit Go.Maps
set_option maxRecDepth 100000
theorem zfM {w w1 w2 w3:World} {g gt gs n c p:Nat} {d D:Int} {l:List RND} {a:Option Addr} {f:Nat->List Int} (F:Nat->Nat->Nat) (hF:FIND w1 w.heap.size p (.slice none 0 0) none f 0) (hb1:Below w.heap.size w w1) (hg:w1.heap.size<=g) (hH:HX.Has w2 g (HX.z4K d 2) 65) (hb2:Below w1.heap.size w1 w2) (hR:RTREE w3 w2.heap.size gt gs D n l a c) (hb3:Below w2.heap.size w2 w3):
  TRIO w w3 g (fun _=>none) w2.heap.size gt gs d D n l a c F 0 p (.slice none 0 0) none f 0 (.slice none 0 0) []:=by
 have hbb:Below w.heap.size w w2:=hb1.trans (hb2.mono hb1.size);have s2:=hb2.size;have s1:=hb1.size;have S:=zdQ hH hbb hR hb3;refine ⟨(HX.FOREST.new hH (by decide) (by omega) F).below hb3,S,(hF.keep hb2).keep hb3,⟨rfl,.inl ⟨rfl,rfl⟩⟩,fun x hx=>?_,fun x e=>by cases e⟩
 have hxp:x=p:=by
  rcases hx with h | h | h
  ·exact h
  ·cases h
  ·cases h
 subst hxp;have hlt:=hF.box.lt;rintro (h | h | h)
 ·omega
 ·rcases h with hf | ⟨k,gc,rs,e,_⟩
  ·rw [(hH.keep hb3).cell 3] at hf
   cases hf
  ·cases e
 ·have:w2.heap.size<=x:=by
   rcases h with rfl | rfl | hx
   ·exact hR.base
   ·exact hR.store.base
   ·exact (hR.store.own.lt x hx).1
  omega
theorem z9d {G:Nat->List Int} (hG:∀ p,(G p).length=32):∀ P:List Nat,(P.flatMap G).length=32*P.length
 | []=>rfl
 | p :: P=>by rw [List.flatMap_cons,List.length_append,hG,z9d hG P,List.length_cons];omega
theorem zfN {EN:Nat->Int} {G:Nat->List Int} (hG:∀ p,(G p).length=32) {n:Nat} {A:List Nat} {q:Nat × List Int} (h:q∈z1l EN G n A):q.2.length<=6016:=by
 unfold z1l at h;split at h
 ·obtain ⟨i,_,rfl⟩:=List.mem_map.1 h
  have:=z6G i n;show ((PLA i n).2.flatMap G).length<=6016;rw [z9d hG];omega
 ·cases h
theorem zfO {w:World} {N:Nat} {r1 r2:PRW} (hi:z1m r1=z1m r2) (h1:Flat w r1.a r1.n r1.z) (h2:Flat w r2.a r2.n r2.z) (hn:r1.z.length<=6016):
  Calls Tryz.prog 15 #[.agg (PRW.cells N r1).toArray,.agg (PRW.cells N r2).toArray] w fun e w'=>e=.returned (.bool true)/\Below w.heap.size w w':=by
 obtain ⟨i1,a1,n1,c1,z1⟩:=r1;obtain ⟨i2,a2,n2,c2,z2⟩:=r2;simp only [z1m,Prod.mk.injEq] at hi;obtain ⟨rfl,rfl⟩:=hi;dsimp only at h1 h2 hn;have:=h1.1;exact z7E N i1 a1 a2 n1 n2 c1 c2 z1 w h1 h2 (by omega)
theorem z9e (d:Int) (al:Option Addr) (nl cl:Nat) (ad:Option Addr) (m cd:Nat) (h:List Int) (w:World) (hn:¬ (nl<=100/\m<=200)):
  Calls Tryz.prog 3 #[.int .i64 d,.slice al nl cl,.slice ad m cd,.agg (z00 h).toArray] w fun e w'=>e=.returned (.bool true)/\Below w.heap.size w w':=by
 have hb:Below w.heap.size w (w.alloc (.cells (z00 h).toArray 25)):=(Below.refl _ _).alloc (Nat.le_refl _) _;by_cases hl:(100:Int)<(nl:Int)
 ·clear hn
  go_enter Tryz.func3,Tryz.ntmps3;go_wp2_with fail
  go_ret;exact ⟨rfl,hb⟩
 ·have hm:(200:Int)<(m:Int):=by omega
  clear hn;go_enter Tryz.func3,Tryz.ntmps3;go_wp2_with fail
  go_ret;exact ⟨rfl,hb⟩
theorem z9f (d : Int) (al:Option Addr) (nl cl:Nat) (lv:List Int) (ad:Option Addr) (m cd:Nat) (R:List Nat) (h:List Int) (w:World) (hFl:Flat w al nl lv) (hr:R.length=m) (hR:NUML w ad R) (hxr:∀ x∈R,x<2 ^ 64) (hh:FISH h) (hnl:nl<=100) (hm:m<=200) (hT:Tabled w) (hX:HX.Tabled w) (h0:2<w.heap.size):
    Calls Tryz.prog 3 #[.int .i64 d,.slice al nl cl,.slice ad m cd,.agg (z00 h).toArray] w fun e w'=>e=.returned (.bool true)/\Below w.heap.size w w':=by
  obtain ⟨w0,hw0⟩:∃ w0,w.alloc (.cells (z00 h).toArray 25)=w0:=⟨_,rfl⟩
  obtain ⟨bx,hbx⟩:∃ b,w.heap.size=b:=⟨_,rfl⟩
  have hb0:Below w.heap.size w w0:=by rw [<-hw0];exact (Below.refl _ _).alloc (Nat.le_refl _) _
  have k3:Has w0 bx (z00 h).toArray 25:=by rw [<-hw0,<-hbx];exact Has.new _ _ _
  have BX:Aside (Below w.heap.size w w0/\Has w0 bx (z00 h).toArray 25/\FISH h):=⟨hb0,k3,hh⟩
  have i1:¬ (100:Int)<(nl:Int):=by omega
  have i2:¬ (200:Int)<(m:Int):=by omega
  have HD:Aside (R.length=m/\NUML w0 ad R/\(∀ x∈R,x<2 ^ 64)/\m<=200):=⟨hr,hR.keep hb0,hxr,hm⟩
  have HF:Aside (Flat w0 al nl lv/\HSS nl lv/\nl<=100):=⟨hFl.below hb0,⟨hFl.1,hFl.2.2⟩,hnl⟩
  have tab:Aside (∀ W,Below w0.heap.size w0 W->Tabled W/\HX.Tabled W/\0<W.heap.size):=fun W hb=>by
    have h2:Below w.heap.size w W:=hb0.trans (hb.mono hb0.size);exact ⟨hT.below (by omega) h2,hX.below h2,by have:=h2.size;omega⟩
  have GB:Aside (1<w0.heap.size):=Nat.lt_of_lt_of_le hX.2.2 hb0.size;have c0:=z8k (HSH lv) w0;clear hFl hnl hm hr hR hxr hT hX h0 hb0 k3 hh;go_enter Tryz.func3,Tryz.ntmps3;go_wp2_with fail
  refine c0.mono ?_;rintro e w1 ⟨rfl,hF0,hb1⟩;have cn:=HX.zbX d 2 (by decide) w1;clear c0 i1 i2 hw0 hbx;have A0:Aside (FIND w1 w0.heap.size w0.heap.size (.slice none 0 0) none (HSH lv) 0/\Below w0.heap.size w0 w1):=⟨hF0,hb1⟩
  obtain ⟨p,hp⟩:∃ p,w0.heap.size=p:=⟨_,rfl⟩
  have AP:Aside (w0.heap.size=p):=hp;rw [hp];clear hF0 hb1 hp;go_wp2_with fail
  refine cn.mono ?_;rintro e w2 ⟨g,rfl,hg,hH,hb2⟩;clear cn;have A1:Aside (w1.heap.size<=g/\HX.Has w2 g (HX.z4K d 2) 65/\Below w1.heap.size w1 w2):=⟨hg,hH,hb2⟩
  have B12:Aside (Below w0.heap.size w0 w2):=A0.out.2.trans (hb2.mono A0.out.2.size);have HG:Aside (w0.heap.size<=g):=Nat.le_trans A0.out.2.size hg;clear hg hH hb2;have ct:=z4N g w2;go_wp2_with fail
  refine ct.mono ?_;rintro e w2' ⟨rfl,rfl⟩;clear ct;have co:=zhE d (TVAL d (LFP lv)) al nl cl lv w2 (HF.out.1.below B12.out) (by have:=HF.out;omega) (fun i hi=>zci HF.out.2.1 hi) (fun h k hk=>by rw [zdL,zdZ]) (fun h k hk=>zaY (fun i hi j=>z6g (z6q HF.out.2.1 hi) j) hk);generalize ((HX.WID d:Nat):Int)=D at *
  go_wp2_with fail
  refine co.mono ?_;rintro e w3 ⟨gt,gs,l,a,c,rfl,hRT,hlen,hnode,hb3⟩;clear co;have HN:Aside (l.length=z02 nl/\∀ h k,(k+1)*2 ^ h<=nl->l[PLC h k]?=some ⟨TVAL d (LFP lv) h k,true,0⟩):=⟨hlen,hnode⟩
  obtain ⟨B2,hB2⟩:∃ B2,w2.heap.size=B2:=⟨_,rfl⟩
  have A2:Aside (TRIO w0 w3 g (fun _=>none) B2 gt gs d D nl l a c (LFP lv) 0 p (.slice none 0 0) none (HSH lv) 0 (.slice none 0 0) []):=by
    have z:=zfM (LFP lv) A0.out.1 A0.out.2 A1.out.1 A1.out.2.1 A1.out.2.2 hRT hb3;rw [AP.out,hB2] at z;exact z
  clear hRT hlen hnode hb3 A1 hB2 A0 B12;go_wp2_with fail
  go_loopg [13,14] nl (fun r s13 s14 wx=>∃ (i k:Nat) (oa:Option Addr) (oc:Nat) (C:HX.z01) (v:Value) (mp:Option Nat),s13=.slice oa k oc/\s14=.int .i64 (i:Int)/\Aside (i+r=nl/\k=(ATS (HSH lv) i h).length/\TRIO w0 wx g C B2 gt gs d D nl l a c (LFP lv) i p v mp (HSH lv) i (.slice oa k oc) (ATS (HSH lv) i h)))
  case atStart=>exact ⟨0,0,none,0,_,_,_,rfl,rfl,by omega,rfl,A2.out⟩
  case round=>
    obtain ⟨i,k,oa,oc,C,v,mp,rfl,rfl,A⟩:=hrel;clear A2;cases gk with
    | succ r=>
      have hin:i<nl:=by have:=A.out.1;omega
      have hlt:(i:Int)<(nl:Int):=by omega
      obtain ⟨lb,lo,rfl,hlb,_⟩:=HF.out.1.2.1 (by omega);have hrg:wr.rangeAt lb (lo+i*32) (z00 (HSH lv i)):=(HF.out.1.below A.out.2.2.sd.bel).at hin;have hI:=z6q HF.out.2.1 hin;have cA:=HX.ze0 A.out.2.2.tree (LFP lv i) (fun j=>z6g hI j) (by have:=HF.out;omega) (tab.out wr A.out.2.2.sd.bel).2.1 GB.out A.out.2.2.sd.bel.size;have h32:=hI.1;rw [show HX.UARR .u8 32 (LFP lv i)=(z00 (HSH lv i)).toArray from (z45 hI).symm] at cA;have ei:wrap64 ((i:Int)+1)=((i+1:Nat):Int):=by have:=HF.out;unfold wrap64;omega
      have A3:Aside (i+1+r=nl/\i<nl):=⟨by have:=A.out.1;show i+1+r=nl;clear ei;omega,hin⟩
      clear hin hlb hI;go_wp2_with (refine wpList_load_mid rfl 25 (.tmp 67) rfl lb (lo+i*32) rfl (z00 (HSH lv i)) _ hrg Tryz.underlying25 rfl (z0g h32) ?_)
      refine cA.mono ?_;rintro e w4 ⟨rfl,C',a1,a2,a3⟩
      have A4:Aside (TRIO w0 w4 g C' B2 gt gs d D nl l a c (LFP lv) (i+1) p v mp (HSH lv) i (.slice oa k oc) (ATS (HSH lv) i h)):=A.out.2.2.append (a1.congr fun k hk=>by
        unfold HX.z0C;split
        · rename_i e;rw [e]
        · rfl) a2 a3
      have AL:Aside (k=(ATS (HSH lv) i h).length):=A.out.2.1;clear cA hrg a1 a2 a3 A;have hrg:w4.rangeAt lb (lo+i*32) (z00 (HSH lv i)):=(HF.out.1.below A4.out.sd.bel).at A3.out.2;have cF:=z8m A4.out.find (z6q HF.out.2.1 A3.out.2) (by have:=HF.out;have:=A3.out;omega);have hiu:IntKind.u64.wrap (i:Int)=(i:Int):=u64f (by have:=HF.out;have:=A3.out;omega);go_wp2_with (refine wpList_load_mid rfl 25 (.tmp 73) rfl lb (lo+i*32) rfl (z00 (HSH lv i)) _ hrg Tryz.underlying25 rfl (z0g h32) ?_)
      refine cF.mono ?_;rintro e w5 ⟨v',mp',rfl,hF5,hS5⟩;have A5:Aside (TRIO w0 w5 g C' B2 gt gs d D nl l a c (LFP lv) (i+1) p v' mp' (HSH lv) (i+1) (.slice oa k oc) (ATS (HSH lv) i h)):=A4.out.add hF5 hS5;clear cF hrg hF5 hS5 A4;have BX5:Aside (Has w5 bx (z00 h).toArray 25):=BX.out.2.1.keep A5.out.sd.bel
      have hS:∀ W,W=w5.drew->(fun W:World=>W.rangeAt lb (lo+i*32) (z00 (HSH lv i))/\W.rangeAt bx 0 (z00 h)) W:=fun W e=>by
        rw [e];exact ⟨(HF.out.1.below (A5.out.below (Below.refl _ _).drew).sd.bel).at A3.out.2,z0s (BX5.out.keep (Below.refl _ _).drew)⟩
      go_upto_region 15 with fail
      refine zdT w5 lb lo nl cl i bx hlt h (HSH lv i) BX.out.2.2.1 h32 (fun W=>W=w5.drew) rfl hS (fun _ _ _ _ _ h=>h) ?_;rintro w6 rfl;have A6:Aside (TRIO w0 w5.drew g C' B2 gt gs d D nl l a c (LFP lv) (i+1) p v' mp' (HSH lv) (i+1) (.slice oa k oc) (ATS (HSH lv) i h)):=A5.out.below (Below.refl _ _).drew;clear A5 hS BX5;generalize w5.drew=w6 at *
      by_cases he:HSH lv i=h
      · have hd:decide (HSH lv i=h)=true:=decide_eq_true he
        rw [hd];obtain rfl:=AL.out
        have hk6:(ATS (HSH lv) i h).length<=2 ^ 30:=by
          have:=z1g (HSH lv) h i;have:=HF.out;have:=A3.out;omega
        have hs6:w0.heap.size<=w6.heap.size:=A6.out.sd.bel.size;have Q6:Aside (TRIO w0 (w6.alloc (.cells #[.int .u64 (i:Int)] 36)) g C' B2 gt gs d D nl l a c (LFP lv) (i+1) p v' mp' (HSH lv) (i+1) (.slice oa (ATS (HSH lv) i h).length oc) (ATS (HSH lv) i h)):=A6.out.below ((Below.refl _ _).alloc (Nat.le_refl _) _)
        have eA:Aside (ATS (HSH lv) (i+1) h=ATS (HSH lv) i h ++ [i]):=by
          show ATS (HSH lv) (i+1) h=ATS (HSH lv) i h ++ [i]
          rw [ATS,if_pos he]
        clear he hd AL A6
        go_wp2_with (first
          | (at_builtin;refine zfJ _ rfl (.tmp 85) (.tmp 88) rfl w0.heap.size (.slice oa (ATS (HSH lv) i h).length oc) (ATS (HSH lv) i h).length (ATS (HSH lv) i h) rfl Q6.out.own w6.heap.size 1 i rfl ((Has.new _ _ _).cell 0) hk6 (by simp;omega) ?_;intro g7 c7 w7 hown hgrow hat hg7)
          | fail)
        have Z:Aside (TRIO w0 w7 g C' B2 gt gs d D nl l a c (LFP lv) (i+1) p v' mp' (HSH lv) (i+1) (.slice (some ⟨g7,0,none⟩) ((ATS (HSH lv) i h).length+1) c7) (ATS (HSH lv) (i+1) h)):=by
          show TRIO w0 w7 g C' B2 gt gs d D nl l a c (LFP lv) (i+1) p v' mp' (HSH lv) (i+1) (.slice (some ⟨g7,0,none⟩) ((ATS (HSH lv) i h).length+1) c7) (ATS (HSH lv) (i+1) h);rw [eA.out];exact Q6.out.put hown hgrow hat
        clear hown hgrow hat hg7 Q6 hk6 hs6;go_wp2_with fail
        go_roundg r
        case measure=>exact Nat.lt_succ_self _
        case rel=>exact ⟨i+1,_,some ⟨g7,0,none⟩,c7,C',v',mp',rfl,(by first | rfl | (rw [ei])),A3.out.1,by rw [eA.out,List.length_append];rfl,Z.out⟩
      · have hd:decide (HSH lv i=h)=false:=decide_eq_false he
        rw [hd]
        have Z:Aside (k=(ATS (HSH lv) (i+1) h).length/\ATS (HSH lv) (i+1) h=ATS (HSH lv) i h):=by
          have e:ATS (HSH lv) (i+1) h=ATS (HSH lv) i h:=by rw [ATS,if_neg he,List.append_nil]
          exact ⟨by rw [e];exact AL.out,e⟩
        clear he hd AL;go_wp2_with fail
        go_roundg r
        case measure=>exact Nat.lt_succ_self _
        case rel=>exact ⟨i+1,k,oa,oc,C',v',mp',rfl,(by first | rfl | (rw [ei])),A3.out.1,Z.out.1,by rw [Z.out.2];exact A6.out⟩
    | zero=>
      obtain rfl:i=nl:=by have:=A.out.1;omega
      have hlt:¬ (i:Int)<(i:Int):=by omega
      have hk:k=(ATS (HSH lv) i h).length:=A.out.2.1;obtain ⟨wz,hwz⟩:∃ z,wr=z:=⟨_,rfl⟩
      rw [hwz] at A;rw [hwz];clear hwz;obtain ⟨X,hX⟩:∃ X,ATS (HSH lv) i h=X:=⟨_,rfl⟩
      rw [hX] at A hk;obtain ⟨S,hS⟩:∃ S:Nat->Prop,(fun x=>FFT p v mp x\/(Value.slice oa k oc).ownBlock=some x)=S:=⟨_,rfl⟩
      have A5:Aside (BOTHK w0 wz wz g (z02 i) B2 gt gs D i a c S l C (z02 i)):=by
        refine ⟨zgT A.out.2.2.tree A.out.2.2.sd HN.out.1 HN.out.2,?_⟩;rw [<-hS];refine ⟨fun x hx=>?_,fun x hx=>?_,fun _ _=>rfl⟩
        · rcases hx with e | e
          · exact (A.out.2.2.find.lt x e).2
          · exact (A.out.2.2.own.lt x e).2
        · rcases hx with e | e
          · exact A.out.2.2.offF x e
          · exact (A.out.2.2.offL x e).1
      have FL:Aside (FIND wz w0.heap.size p v mp (HSH lv) i/\wz.ownsRow w0.heap.size 36 1 (.slice oa k oc) k (z06 X)/\(∀ x,FFT p v mp x->S x)/\(∀ x,(Value.slice oa k oc).ownBlock=some x->S x)/\X.length=k/\ATS (HSH lv) i h=X):=by
        refine ⟨A.out.2.2.find,?_,fun x hx=>by rw [<-hS];exact .inl hx,fun x hx=>by rw [<-hS];exact .inr hx,hk.symm,hX⟩;rw [hk];have:=A.out.2.2.own;rw [hk] at this;exact this
      have HN2:Aside (z02 i<2 ^ 40):=by show z02 i<2 ^ 40;have:=HF.out;unfold z02;omega
      clear A HN GB hX hS hk;go_wp2_with fail
      clear hlt;generalize i=nl at *
      go_loopg [15] m (fun r s15 wx=>∃ (i:Nat) (l':List RND) (C:HX.z01) (al':Nat),s15=.int .i64 (i:Int)/\Aside (i+r=m/\BOTHK w0 wz wx g (z02 nl) B2 gt gs D nl a c S l' C al'))
      case atStart=>exact ⟨0,l,C,_,rfl,by omega,A5.out⟩
      case round=>
        obtain ⟨i,l',C,al',rfl,A⟩:=hrel;clear A5;cases gk with
        | succ r=>
          have hin:i<m:=by have:=A.out.1;omega
          have hlt:(i:Int)<(m:Int):=by omega
          obtain ⟨x,ex⟩:∃ x,R[i]?=some x:=⟨_,List.getElem?_eq_getElem (by have:=HD.out;omega)⟩
          obtain ⟨db,dof,rfl,hdb,hdc⟩:=HD.out.2.1 (by have:=HD.out;omega);have x64:=HD.out.2.2.1 x (List.mem_of_getElem? ex);have CD:Aside (∀ W,Below w0.heap.size w0 W->W.cell? ⟨db,dof+i,none⟩=some (.int .u64 (x:Int))):=fun W hb=>(hb.cell (p:=⟨db,dof+i,none⟩) hdb).trans (hdc i x ex);have ei:wrap64 ((i:Int)+1)=((i+1:Nat):Int):=by have:=HD.out;unfold wrap64;omega
          have A3:Aside (i+1+r=m):=by have:=A.out.1;show i+1+r=m;clear ei;omega
          have B0:BOTHK w0 wz wr.drew g (z02 nl) B2 gt gs D nl a c S l' C al':=A.out.2.below (Below.refl _ _).drew;clear hin hdb hdc ex A;go_upto_region 20 with fail
          refine zdU wr g gt gs db dof m cd i x (RDRP l' x) hlt (fun W=>BOTHK w0 wz W g (z02 nl) B2 gt gs D nl a c S l' C al') (fun W=>zcc w0 wz W g (z02 nl) B2 gt gs D nl a c S l' x) (fun W=>∃ l2 C2 al2,BOTHK w0 wz W g (z02 nl) B2 gt gs D nl a c S l2 C2 al2) B0 (fun W h=>⟨h.1.sd.rt.box.cell 2,CD.out W h.1.sd.bel⟩) (fun W h=>?_) (fun W h=>?_) (fun W h=>(z4N g W).mono fun e W' he=>⟨he.1,he.2 ▸ h⟩) (fun W h=>zab h x x64 HG.out HN2.out) (fun W h=>z94 x h) (fun _ _ _ _ _ h=>h) ?_
          · obtain ⟨C2,al2,_,k2,_⟩:=h
            exact ⟨k2.rt.box.cell 2,CD.out W k2.bel⟩
          · obtain ⟨l2,C2,al2,k2⟩:=h
            exact ⟨k2.1.sd.rt.box.cell 2,CD.out W k2.1.sd.bel⟩
          rintro w3 ⟨l2,C2,al2,k2⟩;have A4:Aside (BOTHK w0 wz w3 g (z02 nl) B2 gt gs D nl a c S l2 C2 al2):=k2;clear B0 k2 CD x64;dsimp only;go_wp2_with fail
          go_roundg r
          case measure=>exact Nat.lt_succ_self _
          case rel=>exact ⟨i+1,l2,C2,al2,by first | rfl | (rw [ei]),A3.out,A4.out⟩
        | zero=>
          obtain rfl:i=m:=by have:=A.out.1;omega
          have hlt:¬ (i:Int)<(i:Int):=by omega
          have S0:Aside (BOTHD w0 wr g 2 (z02 nl) (z02 nl) B2 gt gs D nl a c l' C al'/\FIND wr w0.heap.size p v mp (HSH lv) nl/\NUML wr oa X):=by
            refine ⟨A.out.2.1,FL.out.1.at fun x e=>A.out.2.2.same x (FL.out.2.2.1 x e),z5C (z0J FL.out.2.1 fun x e=>A.out.2.2.same x (FL.out.2.2.2.1 x e)) FL.out.2.2.2.2.1⟩
          have HX2:Aside (X.length=k/\ATS (HSH lv) nl h=X):=FL.out.2.2.2.2;clear A HD HN2 FL;obtain ⟨V0,hV0⟩:∃ V0:Int,(if X=[] then (32:Int) else 0)=V0:=⟨_,rfl⟩
          have HV:Aside ((if X=[] then (32:Int) else 0)=V0):=hV0;clear hV0;obtain ⟨wb,hwb⟩:∃ z,wr=z:=⟨_,rfl⟩
          rw [hwb] at S0;rw [hwb];clear hwb;go_upto_if 115 with fail
          go_cut [16] from 113 to 115 (fun s16 W=>s16=.int .i64 V0/\W=wb)
          case first=>
            by_cases hA:X=[]
            · have hk:k=0:=by rw [<-HX2.out.1,hA];rfl
              have e:V0=32:=by rw [<-HV.out,if_pos hA]
              subst hk;subst e;clear HV S0 HX2 hA;go_wp2_with fail
              go_meet
              case rel=>exact ⟨rfl,rfl⟩
            · have hk:((k:Int) == 0)=false:=by
                rw [beq_eq_false_iff_ne,<-HX2.out.1];have:=List.length_pos_iff.2 hA;omega
              have e:V0=0:=by rw [<-HV.out,if_neg hA]
              subst e;clear HV S0 HX2 hA;go_wp2_with fail
              go_meet
              case rel=>exact ⟨rfl,rfl⟩
          case rest =>
            obtain ⟨rfl,hq⟩:=hcut;rw [hq];clear hq;obtain ⟨EN,hEN⟩:∃ EN,(fun p=>(RGOT l' p).1)=EN:=⟨_,rfl⟩
            obtain ⟨G,hG⟩:∃ G,(fun p=>(RGOT l' p).2)=G:=⟨_,rfl⟩
            have HE:Aside ((fun p=>(RGOT l' p).1)=EN/\(fun p=>(RGOT l' p).2)=G):=⟨hEN,hG⟩
            have XL:Aside (∀ x∈X,x<nl):=fun x hx=>(z6r.1 (by rw [HX2.out.2];exact hx)).1;have hnu:IntKind.u64.wrap (nl:Int)=(nl:Int):=u64f (by have:=HF.out;omega);clear hEN hG hlt;go_upto_block 4 with fail
            go_cut [16,17] from 116 to 157 (fun s16 s17 W=>∃ (la:Option Addr) (lk lc:Nat) (RL:List PRW),s16=.int .i64 (z1e EN nl X)/\s17=.slice la lk lc/\Aside (Below wb.heap.size wb W/\PLST wb.heap.size W nl (.slice la lk lc) lk RL/\RL.map z1m=z1l EN G nl X))
            case first=>
              go_wp2_with fail
              go_loopg [16,17,18,19,20,21,22] k (fun r s16 s17 s18 _ _ _ _ wx=>∃ (i:Nat) (la:Option Addr) (lc:Nat) (RL:List PRW),s16=.int .i64 V0/\s17=.slice la i lc/\s18=.int .i64 (i:Int)/\Aside (i+r=k/\Below wb.heap.size wb wx/\PLST wb.heap.size wx nl (.slice la i lc) i RL/\RL.map z1m=(X.take i).map (fun i=>(i,(PLA i nl).2.flatMap G))/\(∀ x∈X.take i,PRE EN nl x=0)))
              case atStart=>exact ⟨0,none,0,[],rfl,rfl,rfl,by omega,Below.refl _ _,PLST.nil _ _ _,rfl,by simp⟩
              case round=>
                obtain ⟨i,la,lc,RL,rfl,rfl,rfl,A⟩:=hrel;cases gk with
                | zero=>
                  obtain rfl:i=k:=by have:=A.out.1;omega
                  have hlt:¬ (i:Int)<(i:Int):=by omega
                  have Z:Aside (z1e EN nl X=V0/\RL.map z1m=z1l EN G nl X):=by
                    have ht:X.take i=X:=List.take_of_length_le (by have:=HX2.out.1;omega);obtain ⟨_,_,_,s5,s6⟩:=A.out;rw [ht] at s5 s6;by_cases hx:X=[]
                    · have e1:z1e EN nl X=32:=if_pos hx
                      refine ⟨by rw [e1,<-HV.out,if_pos hx],?_⟩;unfold z1l;rw [if_neg (by rw [e1];decide),s5,hx];rfl
                    · have e1:z1e EN nl X=0:=by unfold z1e;rw [if_neg hx];exact z2C s6
                      refine ⟨by rw [e1,<-HV.out,if_neg hx],?_⟩;unfold z1l;rw [if_pos e1];exact s5
                  go_wp2_with fail
                  go_meet
                  case rel=>exact ⟨la,i,lc,RL,by rw [Z.out.1],rfl,A.out.2.1,A.out.2.2.1,Z.out.2⟩
                | succ r=>
                  have hin:i<k:=by have:=A.out.1;omega
                  have hlt:(i:Int)<(k:Int):=by omega
                  have hV:V0=0:=by
                    rw [<-HV.out,if_neg];intro e;have:=HX2.out.1;rw [e] at this;simp at this;omega
                  subst hV;obtain ⟨x,ex⟩:∃ x,X[i]?=some x:=⟨_,List.getElem?_eq_getElem (by have:=HX2.out;omega)⟩
                  obtain ⟨db,dof,rfl,hdb,hdc⟩:=S0.out.2.2 (by have:=HX2.out;omega);have hc:wr.cell? ⟨db,dof+i,none⟩=some (.int .u64 (x:Int)):=(A.out.2.1.cell (p:=⟨db,dof+i,none⟩) hdb).trans (hdc i x ex);have xl:Aside (x<nl/\i+1+r=k/\X[i]?=some x):=⟨XL.out x (List.mem_of_getElem? ex),by have:=A.out.1;omega,ex⟩
                  have cp:=zcU x nl wr
                  have hE1:(PLA x nl).1=0:=by
                    unfold PLA;rw [if_neg (by have:=HF.out;omega),if_neg (by have:=xl.out;omega)]
                  rw [hE1] at cp;have ei:wrap64 ((i:Int)+1)=((i+1:Nat):Int):=by have:=XL;have:=HF.out;have hl:=z1g (HSH lv) h nl;rw [HX2.out.2,HX2.out.1] at hl;unfold wrap64;omega
                  have PE:Aside ((PLA x nl).1=0):=hE1;have CX:Aside (wb.cell? ⟨db,dof+i,none⟩=some (.int .u64 (x:Int))/\db<wb.heap.size):=⟨hdc i x ex,hdb⟩
                  clear hin hdc hdb ex hE1;go_wp2_with fail
                  refine cp.mono ?_;rintro e w4 ⟨vp,rfl,op,hb4⟩;clear cp;obtain ⟨ap,kp,rfl,_,_⟩:=z6i op;have B4:Aside (Below wb.heap.size wb w4/\Below wr.heap.size wr w4):=⟨A.out.2.1.trans (hb4.mono A.out.2.1.size),hb4⟩
                  have ca:=zhF (S0.out.1.below B4.out.1).sd.rt (PLA x nl).2 ap (PLA x nl).2.length kp rfl (z5C op rfl) (by have:=z6G x nl;omega);clear op hb4 hc;go_wp2_with fail
                  refine ca.mono ?_;rintro e w5 h5;clear ca;obtain ⟨hb5,h5⟩:=zgU h5;rw [HE.out.1,HE.out.2] at h5;have B5:Aside (Below wb.heap.size wb w5/\Below wr.heap.size wr w5/\w4.heap.size<=w5.heap.size/\wr.heap.size<=w4.heap.size):=⟨B4.out.1.trans (hb5.mono B4.out.1.size),B4.out.2.trans (hb5.mono B4.out.2.size),hb5.size,B4.out.2.size⟩
                  have hPR:PRE EN nl x=FSTE EN (PLA x nl).2:=by unfold PRE WNT;rw [if_pos PE.out]
                  have P3:=A.out.2.2.1;have P5:=A.out.2.2.2;rcases h5 with ⟨hV,rfl⟩ | ⟨hV,ol,oc5,rfl,o5⟩
                  · have hv:PRE EN nl x≠0:=by rw [hPR];exact hV
                    have hX0:X≠[]:=fun e=>by have:=xl.out.2.2;rw [e] at this;simp at this
                    have e1:z1e EN nl X=FSTE EN (PLA x nl).2:=by
                      unfold z1e;rw [if_neg hX0,<-hPR];exact z3C xl.out.2.2 (fun j y hj hy=>P5.2 y (List.mem_of_getElem? (by rw [List.getElem?_take_of_lt hj];exact hy))) hv
                    have Z:Aside (Below wb.heap.size wb w5/\z1e EN nl X=FSTE EN (PLA x nl).2/\z1l EN G nl X=[]):=⟨B5.out.1,e1,by unfold z1l;rw [if_neg (by rw [e1];exact hV)]⟩
                    have hne:(FSTE EN (PLA x nl).2 != 0)=true:=by rw [bne_iff_ne];exact hV
                    clear hv hX0 e1 hPR P3 P5 B4 B5 A hb5 S0;generalize FSTE EN (PLA x nl).2=V at *
                    clear hV;go_wp2_with fail
                    go_meet
                    case rel=>exact ⟨none,0,0,[],by rw [Z.out.2.1],rfl,Z.out.1,PLST.nil _ _ _,by rw [Z.out.2.2];rfl⟩
                  · have hv:PRE EN nl x=0:=by rw [hPR];exact hV
                    have hc:w5.cell? ⟨db,dof+i,none⟩=some (.int .u64 (x:Int)):=(B5.out.1.cell (p:=⟨db,dof+i,none⟩) CX.out.2).trans CX.out.1
                    have hfl:=z8M o5 (fun y hy=>by
                      rw [<-HE.out.2] at hy;exact z7x S0.out.1.byte (PLA x nl).2 y hy)
                    have hne:∀ y,0<(PLA x nl).2.length->ol=some y->y.block<w5.heap.size/\(Value.slice la i lc).ownBlock≠some y.block:=fun y _ e=>by
                      have h1:=o5.lt y.block (by rw [e];rfl);refine ⟨h1.2,fun e2=>?_⟩;have:=(P3.own.lt y.block e2).2;have:=B5.out.2.2.2;omega
                    have Q5:Aside (PLST wb.heap.size w5 nl (.slice la i lc) i RL/\Flat w5 ol (PLA x nl).2.length ((PLA x nl).2.flatMap G)/\(∀ y,0<(PLA x nl).2.length->ol=some y->y.block<w5.heap.size/\(Value.slice la i lc).ownBlock≠some y.block)/\(RL ++ [(⟨x,ol,(PLA x nl).2.length,oc5,(PLA x nl).2.flatMap G⟩:PRW)]).map z1m=(X.take (i+1)).map (fun i=>(i,(PLA i nl).2.flatMap G))/\(∀ y∈X.take (i+1),PRE EN nl y=0)):=by
                      have et:X.take (i+1)=X.take i ++ [x]:=by rw [List.take_add_one,xl.out.2.2];rfl
                      refine ⟨P3.below B5.out.2.1,hfl,hne,?_,?_⟩
                      · rw [et,List.map_append,List.map_append,P5.1]
                        rfl
                      · rw [et]
                        intro y hy;rcases List.mem_append.1 hy with h1 | h1
                        · exact P5.2 y h1
                        · rw [List.mem_singleton.1 h1]
                          exact hv
                    have hi6:i<=100000:=by
                      have hl:=z1g (HSH lv) h nl;rw [HX2.out.2,HX2.out.1] at hl;have:=HF.out;omega
                    have W5:Aside (Below wb.heap.size wb w5/\wb.heap.size<=w5.heap.size):=⟨B5.out.1,B5.out.1.size⟩
                    clear hv hPR P3 P5 B4 B5 A hb5 S0 hV h5 hfl hne o5 CX;generalize (PLA x nl).2.length=L7 at *
                    generalize (PLA x nl).2.flatMap G=Z7 at *
                    go_wp2_with (first
                      | (refine z0S _ rfl 42 48 (.tmp 155) rfl (PRW.cells nl ⟨x,ol,L7,oc5,Z7⟩).toArray rfl 3 _ _ Tryz.underlying42 z2N rfl rfl (by decide) (by decide) ?_)
                      | (at_builtin;refine z7y _ rfl (.tmp 146) (.tmp 156) rfl wb.heap.size nl (.slice la i lc) i RL rfl (Q5.out.1.own.alloc _) _ 1 ⟨x,ol,L7,oc5,Z7⟩ rfl (Has.new _ _ _) hi6 (by have:=W5.out.2;simp;omega) ?_;intro g7 c7 w7 hown hgrow hat hg7)
                      | fail)
                    have ha5:Below w5.heap.size w5 (w5.alloc (.cells (PRW.cells nl ⟨x,ol,L7,oc5,Z7⟩).toArray 48)):=(Below.refl _ _).alloc (Nat.le_refl _) _
                    have Z:Aside (Below wb.heap.size wb w7/\PLST wb.heap.size w7 nl (.slice (some ⟨g7,0,none⟩) (i+1) c7) (i+1) (RL ++ [⟨x,ol,L7,oc5,Z7⟩])):=
                      ⟨(W5.out.1.trans (ha5.mono W5.out.2)).grown hgrow (by have:=W5.out.2;simp;omega) (fun k e=>(Q5.out.1.own.lt k e).1),Q5.out.1.put Q5.out.2.1 Q5.out.2.2.1 ha5 hgrow hat hown⟩
                    clear hown hgrow hat hg7 ha5 hc hi6;go_wp2_with fail
                    go_roundg r
                    case measure=>exact Nat.lt_succ_self _
                    case rel=>exact ⟨i+1,some ⟨g7,0,none⟩,c7,RL ++ [⟨x,ol,L7,oc5,Z7⟩],rfl,rfl,(by first | rfl | rw [ei]),xl.out.2.1,Z.out.1,Z.out.2,Q5.out.2.2.2.1,Q5.out.2.2.2.2⟩
            case rest=>
              obtain ⟨la,lk,lc,RL,rfl,rfl,hc⟩:=hcut;have S1:Aside (BOTHD w0 wc g 2 (z02 nl) (z02 nl) B2 gt gs D nl a c l' C al'/\FIND wc w0.heap.size p v mp (HSH lv) nl/\PLST wb.heap.size wc nl (.slice la lk lc) lk RL/\RL.map z1m=z1l EN G nl X):=⟨S0.out.1.below hc.out.1,S0.out.2.1.keep hc.out.1,hc.out.2.1,hc.out.2.2⟩
              have tb:=tab.out wc S1.out.1.sd.bel;have hG32:∀ p,(G p).length=32:=fun p=>by rw [<-HE.out.2];exact z90 S1.out.1.sd.rt.store.is p
              have G32:Aside (∀ p,(G p).length=32):=hG32
              have cP:=zcb S1.out.2.1 (by have:=HF.out;omega) BX.out.2.2 g G EN hG32 (fun p x hx=>z7x S1.out.1.byte [p] x (by
                rw [<-HE.out.2] at hx;simpa using hx)) (fun i=>by
                have z:=S1.out.1.noded _ (zhI i nl);rw [HE.out.1,HE.out.2] at z;exact z) tb.1 tb.2.2
              rw [HX2.out.2] at cP;have hrb:wc.rangeAt bx 0 (z00 h):=z0s (BX.out.2.1.keep S1.out.1.sd.bel);have h32:=BX.out.2.2.1;have hBW:Aside (Below w.heap.size w wc):=BX.out.1.trans (S1.out.1.sd.bel.mono BX.out.1.size);clear hc tb hG32 S0 HV XL hnu tab HG AP
              go_wp2_with (first
                | (refine wpList_load_mid rfl 25 (.tmp 7) rfl bx 0 rfl (z00 h) _ hrb Tryz.underlying25 rfl (z0g h32) ?_)
                | fail)
              refine cP.mono ?_;rintro e w6 ⟨a6,k6,c6,R6,rfl,hb6,P6,m6⟩
              have hlen:k6=lk:=by
                have e1:=congrArg List.length m6;have e2:=congrArg List.length S1.out.2.2.2;rw [List.length_map,P6.len] at e1;rw [List.length_map,S1.out.2.2.1.len] at e2;omega
              subst hlen
              have S6:Aside (Below w.heap.size w w6/\PLST wc.heap.size w6 nl (.slice a6 k6 c6) k6 R6/\PLST wb.heap.size w6 nl (.slice la k6 lc) k6 RL/\R6.map z1m=RL.map z1m/\(∀ r∈R6,r.z.length<=6016)/\k6<=100):=by
                refine ⟨hBW.out.trans (hb6.mono hBW.out.size),P6,S1.out.2.2.1.below hb6,m6.trans S1.out.2.2.2.symm,fun r hr=>?_,?_⟩
                · have hm:z1m r∈z1l EN G nl X:=by rw [<-m6];exact List.mem_map.2 ⟨r,hr,rfl⟩
                  exact zfN G32.out hm
                · have e1:=congrArg List.length m6
                  rw [List.length_map,P6.len] at e1;have hl:=z1g (HSH lv) h nl;rw [HX2.out.2] at hl;unfold z1l at e1;have:=HF.out.2.2;split at e1
                  · rw [List.length_map] at e1;omega
                  · simp at e1;omega
              clear cP hrb hb6 P6 m6 S1 hBW;generalize z1e EN nl X=V at *
              go_wp2_with fail
              go_loopg [25] k6 (fun r s25 wx=>∃ i:Nat,s25=.int .i64 (i:Int)/\Aside (i+r=k6/\Below w6.heap.size w6 wx))
              case atStart=>exact ⟨0,rfl,by omega,Below.refl _ _⟩
              case round=>
                obtain ⟨i,rfl,A⟩:=hrel;cases gk with
                | zero=>
                  obtain rfl:i=k6:=by have:=A.out.1;omega
                  have hlt:¬ (i:Int)<(i:Int):=by omega
                  have Z:Aside (Below w.heap.size w wr):=S6.out.1.trans (A.out.2.mono S6.out.1.size);have cw:=zce wr;clear A S6;go_wp2_with fail
                  refine cw.mono ?_;rintro e w7 ⟨rfl,hb7⟩;clear cw;have Z7:Aside (Below w.heap.size w w7):=Z.out.trans (hb7.mono Z.out.size);clear hb7;go_wp2_with fail
                  go_ret;exact ⟨rfl,Z7.out⟩
                | succ r=>
                  have hin:i<k6:=by have:=A.out.1;omega
                  have hlt:(i:Int)<(k6:Int):=by omega
                  obtain ⟨r1,e1⟩:∃ x,R6[i]?=some x:=⟨_,List.getElem?_eq_getElem (by have:=S6.out.2.1.len;omega)⟩
                  obtain ⟨r2,e2⟩:∃ x,RL[i]?=some x:=⟨_,List.getElem?_eq_getElem (by have:=S6.out.2.2.1.len;omega)⟩
                  have he:z1m r1=z1m r2:=by
                    have:=congrArg (fun l=>l[i]?) S6.out.2.2.2.1;simp only [List.getElem?_map,e1,e2,Option.map_some,Option.some.injEq] at this;exact this
                  have hz:=S6.out.2.2.2.2.1 r1 (List.mem_of_getElem? e1);have ei:wrap64 ((i:Int)+1)=((i+1:Nat):Int):=by have:=S6.out.2.2.2.2.2;unfold wrap64;omega
                  have hbd:Below w6.heap.size w6 wr.drew:=A.out.2.trans ((Below.refl _ _).drew)
                  have J8:∀ W,Below w6.heap.size w6 W->Calls Tryz.prog 15 #[.agg (PRW.cells nl r1).toArray,.agg (PRW.cells nl r2).toArray] W fun e w'=>e=.returned (.bool true)/\Below w6.heap.size w6 w':=fun W hW=>by
                    refine (zfO he ((S6.out.2.1.below hW).flat r1 (List.mem_of_getElem? e1)) ((S6.out.2.2.1.below hW).flat r2 (List.mem_of_getElem? e2)) hz).mono ?_;rintro e w' ⟨h1,h2⟩;exact ⟨h1,hW.trans (h2.mono hW.size)⟩
                  obtain ⟨g1,rfl,_⟩:=S6.out.2.1.at e1;obtain ⟨g2,rfl,_⟩:=S6.out.2.2.1.at e2
                  have hS:∀ W,Below w6.heap.size w6 W->(fun W:World=>W.rangeAt g1 (i*3) (PRW.cells nl r1)/\W.rangeAt g2 (i*3) (PRW.cells nl r2)) W:=fun W hW=>by
                    obtain ⟨x1,q1,y1⟩:=(S6.out.2.1.below hW).at e1;obtain ⟨x2,q2,y2⟩:=(S6.out.2.2.1.below hW).at e2;cases q1;cases q2;rw [Nat.mul_comm];exact ⟨y1,y2⟩
                  have A3:Aside (i+1+r=k6):=by have:=A.out.1;show i+1+r=k6;clear ei;omega
                  clear hin e1 e2 he hz A;go_upto_region 41 with fail
                  refine zdV wr g1 g2 k6 c6 lc i nl r1 r2 hlt (fun W=>Below w6.heap.size w6 W) hbd hS J8 (fun _ _ _ _ _ h=>h) ?_;intro w7 hb7;have Z7:Aside (Below w6.heap.size w6 w7):=hb7;clear hbd hS J8 hb7;go_wp2_with fail
                  go_roundg r
                  case measure=>exact Nat.lt_succ_self _
                  case rel=>exact ⟨i+1,by first | rfl | (rw [ei]),A3.out,Z7.out⟩
theorem z9g (d:Int) (al:Option Addr) (nl cl:Nat) (lv:List Int) (ad:Option Addr) (m cd:Nat) (R:List Nat) (h:List Int) (w:World) (hFl:Flat w al nl lv) (hr:R.length=m) (hR:NUML w ad R) (hxr:∀ x∈R,x<2 ^ 64) (hh:IsH h) (hT:Tabled w) (hX:HX.Tabled w) (h0:2<w.heap.size):
  Calls Tryz.prog 3 #[.int .i64 d,.slice al nl cl,.slice ad m cd,.agg (z00 h).toArray] w fun e w'=>e=.returned (.bool true)/\Below w.heap.size w w':=by
 by_cases hn:nl<=100/\m<=200
 ·exact z9f d al nl cl lv ad m cd R h w hFl hr hR hxr hh hn.1 hn.2 hT hX h0
 ·exact z9e d al nl cl ad m cd h w hn
end Go.Proofs.YtlbcnaenhghieaaGreatDoor
namespace Go.Proofs.YtlbcnaenhghieaaGreatDoor
open Go.ChangeShapes Go.WideShapes Go.ChangeAt Go.WideMaps Go.WideElems Go.RowKit
set_option maxRecDepth 100000
theorem own:ownKnob Tryz.prog.godebug=none:=by kernel_rfl
theorem z50:laidOutB Tryz.prog=true:=by kernel_rfl
theorem gTab:Tryz.prog.globalNamed "math/bits.deBruijn64tab"=some 2:=by kernel_rfl
theorem tTab:(Tryz.prog.globals[2]?).map (·.type)=some 148:=by kernel_rfl
theorem zh5 {H:Type}:(Rows.laid_math_bits_deBruijn64tab:DataW H)=.agg (TAB.map fun n=>.lit (.int .u8 (n:Nat))):=rfl
end Go.Proofs.YtlbcnaenhghieaaGreatDoor
namespace Go.Proofs.YtlbcnaenhghieaaGreatDoor
open Go.ChangeShapes Go.WideShapes Go.ChangeAt Go.WideMaps Go.WideElems Go.RowKit Go.Deep
set_option maxRecDepth 100000
theorem z7A {H:Type} {enc:TypeId × Value->H} {W:World} {fuel:Nat} {cs:List Value} {x:DataW H × List MemPlace} (hf:DataW.trod enc Tryz.prog W 0 (fun _=>true) true fuel 25 cs=some x):∃ h:List Int,h.length=32/\(∀ x∈h,0<=x/\x<=255)/\cs=z00 h:=by
 obtain ⟨xs,m,rfl,_,hl,hn,hel⟩:=DataW.trod_array Tryz.underlying25 hf;have c5:Tryz.prog.cellsOf 5=1:=by kernel_rfl
 have c32:Tryz.prog.cellsOf 25=32:=by kernel_rfl
 rw [c32] at hl
 have hx:∀ i,i<32->∃ k:Int,cs[i]?=some (.int .u8 k)/\0<=k/\k<=255:=fun i hi=>by
  have h0:=hel i hi;rw [List.getElem?_eq_getElem (by omega),c5,Nat.mul_one] at h0;obtain ⟨k,e1,_,e3⟩:=DataW.trod_int Tryz.underlying5 h0;have hb:=bounds_u8 e3;refine ⟨k,?_,by omega,by omega⟩;have:=congrArg (fun l=>l[0]?) e1;simpa using this
 have F:∃ f:Nat->Int,∀ i,i<32->cs[i]?=some (.int .u8 (f i))/\0<=f i/\f i<=255:=by
  refine ⟨fun i=>if hi:i<32 then (hx i hi).choose else 0,fun i hi=>?_⟩;simp only [hi,dif_pos];exact (hx i hi).choose_spec
 obtain ⟨f,hf1⟩:=F;refine ⟨(List.range 32).map f,by simp,fun x hx=>?_,?_⟩
 ·simp only [List.mem_map,List.mem_range] at hx
  obtain ⟨i,hi,rfl⟩:=hx;exact (hf1 i hi).2
 ·apply List.ext_getElem?
  intro i;by_cases hi:i<32
  ·rw [(hf1 i hi).1,z0K _ i (by simp;exact hi),List.getD_eq_getElem?_getD,List.getElem?_map,List.getElem?_range hi]
   rfl
  ·rw [List.getElem?_eq_none (by omega),List.getElem?_eq_none (by simp [z00];omega)]
theorem zfP {H:Type} {enc:TypeId × Value->H} {W:World} {r:Reach} {b0:Nat} {v:Value} {d:DataW H} {ps:List MemPlace} (hval:Value.okWide Tryz.prog W r b0 25 v) (hd:DataW.Trod enc Tryz.prog W 0 (fun _=>true) true 25 v d ps):∃ h:List Int,h.length=32/\(∀ x∈h,0<=x/\x<=255)/\v=.agg (z00 h).toArray:=by
 simp only [Value.okWide,Tryz.underlying25] at hval;obtain ⟨cs,rfl,hsz,_⟩:=hval;obtain ⟨fuel,hf⟩:=hd;obtain ⟨h,h1,h2,h3⟩:=z7A hf;refine ⟨h,h1,h2,?_⟩;congr 1
 apply Array.ext';simpa [Value.cells] using h3
theorem ze1 {H:Type} {enc:TypeId × Value->H} {W:World} {fuel:Nat} {a:Option Addr} {k c:Nat} {x:DataW H × List MemPlace} (hf:DataW.trod enc Tryz.prog W 0 (fun _=>true) true fuel 22 [.slice a k c]=some x):
  ∃ l:List Int,Flat W a k l/\(a=none->c=0)/\k<=c:=by
 rcases DataW.trod_slice Tryz.underlying22 hf with ⟨h0,_⟩ | ⟨ad,len,cap,elems,rest,n,_,h0,hx,_,hl,hm,hlen,hel,_,_⟩
 ·simp at h0
  obtain ⟨rfl,rfl,rfl⟩:=h0;exact ⟨[],⟨rfl,fun h=>absurd h (by omega),by simp⟩,fun _=>rfl,Nat.le_refl _⟩
 ·simp at h0
  obtain ⟨rfl,rfl,rfl⟩:=h0;have c32:Tryz.prog.cellsOf 25=32:=by kernel_rfl
  have each:∀ i,i<k->∃ h:List Int,h.length=32/\(∀ x∈h,0<=x/\x<=255)/\∀ j,j<32->W.cell? ((ad.add (i*32)).add j)=some (.int .u8 (h.getD j 0)):=fun i hi=>by
   have h:=hel i hi;rw [List.getElem?_eq_getElem (by omega),c32,Option.bind_eq_some_iff] at h;obtain ⟨cs,hcs,ht⟩:=h;obtain ⟨f,h1,h2,rfl⟩:=z7A ht;have hs:=(World.cells?_some hcs).2.2;refine ⟨f,h1,h2,fun j hj=>?_⟩;have s:=hs j hj;rw [s];exact z0K f j (by omega)
  have F:∃ f:Nat->List Int,∀ i,i<k->(f i).length=32/\(∀ x∈f i,0<=x/\x<=255)/\∀ j,j<32->W.cell? ((ad.add (i*32)).add j)=some (.int .u8 ((f i).getD j 0)):=by
   refine ⟨fun i=>if hi:i<k then (each i hi).choose else [],fun i hi=>?_⟩;simp only [hi,dif_pos];exact (each i hi).choose_spec
  obtain ⟨f,hf2⟩:=F
  have hrange:∀ i,i<k->∀ j,j<32->0<=(f i).getD j 0/\(f i).getD j 0<=255:=fun i hi j hj=>by
   rw [List.getD_eq_getElem?_getD,List.getElem?_eq_getElem (by rw [(hf2 i hi).1];exact hj)];exact (hf2 i hi).2.1 _ (List.getElem_mem _)
  refine ⟨(List.range (32*k)).map fun m=>(f (m / 32)).getD (m % 32) 0,⟨by simp,fun h0k=>?_,fun x hx=>?_⟩,(fun e=>by cases e),by omega⟩
  ·obtain ⟨b,off,spot⟩:=ad
   have hc:=(hf2 0 h0k).2.2 0 (by decide);have hspot:spot=none:=by simpa [Addr.add] using World.cell?_spot hc
   subst hspot;refine ⟨b,off,rfl,?_,fun m hm=>?_⟩
   ·have:=World.block_lt_of_cell? W _ hc
    simpa [Addr.add] using this
   ·have h1:=(hf2 (m / 32) (by omega)).2.2 (m % 32) (by omega)
    rw [z0y,z0y] at h1;rw [List.getD_eq_getElem?_getD,List.getElem?_map,List.getElem?_range hm];simp only [Option.map_some,Option.getD_some];rw [<-h1];congr 2
    omega
  ·simp only [List.mem_map,List.mem_range] at hx
   obtain ⟨m,hm,rfl⟩:=hx;exact hrange _ (by omega) _ (by omega)
theorem ze2 {H:Type} {enc:TypeId × Value->H} {W:World} {a:Option Addr} {k c:Nat} {d:DataW H} {ps:List MemPlace} (hd:DataW.Trod enc Tryz.prog W 0 (fun _=>true) true 22 (.slice a k c) d ps):∃ l:List Int,Flat W a k l/\(a=none->c=0)/\k<=c:=by
 obtain ⟨fuel,hf⟩:=hd;exact ze1 (by simpa [Value.cells] using hf)
end Go.Proofs.YtlbcnaenhghieaaGreatDoor
