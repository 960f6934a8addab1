/- ManyMakes: part 43. -/
import Derived.Test.YthmnailmbgondaaGreatDoorManyMakesP42
set_option maxHeartbeats 16000000
namespace Go.Proofs.YthmnailmbgondaaGreatDoor
open Go.RowKit
set_option maxRecDepth 100000
def LFM (lv:List Int) (i:Nat):Nat->Nat:=FNC (HSH lv i)
theorem z97 {lv:List Int} {nl i:Nat} (hl:HSS nl lv) (hi:i<nl):IsH (HSH lv i):=⟨z1y hl.1 hi,fun x hx=>hl.2 x (List.mem_of_mem_drop (List.mem_of_mem_take hx))⟩
theorem zcb {d:Int} {lv:List Int} {nl:Nat} (hl:HSS nl lv) {i:Nat} (hi:i<nl):TVAL d (LFM lv) 0 i=HSH lv i:=by
 show LST (FNC (HSH lv i))=HSH lv i;exact zaD (z97 hl hi)
theorem Aside.mk {p:Prop} (h:p):Aside p:=h
theorem zcc (d:Int) (al:Option Addr) (nl cl:Nat) (ad:Option Addr) (m cd:Nat) (ai:Option Addr) (n ci:Nat) (N:Int) (w:World) (h:¬ (nl<=200/\m<=200/\n<=200)):
  Calls Tryz.prog 4 #[.int .i64 d,.slice al nl cl,.slice ad m cd,.slice ai n ci,.int .u64 N] w fun e w'=>e=.returned (.bool true)/\Below w.heap.size w w':=by
 by_cases hn:(200:Int)<(nl:Int)
 ·clear h
  go_enter Tryz.func4,Tryz.ntmps4;go_wp2_with fail
  go_ret;exact ⟨rfl,Below.refl _ _⟩
 ·by_cases hm:(200:Int)<(m:Int)
  ·clear h
   go_enter Tryz.func4,Tryz.ntmps4;go_wp2_with fail
   go_ret;exact ⟨rfl,Below.refl _ _⟩
  ·have hk:(200:Int)<(n:Int):=by omega
   clear h;go_enter Tryz.func4,Tryz.ntmps4;go_wp2_with fail
   go_ret;exact ⟨rfl,Below.refl _ _⟩
theorem zcd (d:Int) (al:Option Addr) (nl cl:Nat) (lv:List Int) (ad:Option Addr) (m cd:Nat) (R:List Nat) (ai:Option Addr) (n ci:Nat) (L:List Nat) (N:Nat) (w:World) (hFl:Flat w al nl lv) (hr:R.length=m) (hR:NUML w ad R) (hxr:∀ x∈R,x<2 ^ 64) (hl:L.length=n) (hci:ai=none->ci=0) (hL:NUML w ai L) (hx:∀ x∈L,x<2 ^ 64) (hnl:nl<=200) (hm:m<=200) (hn:n<=200) (hT:Tabled w) (hX:HX.Tabled w) (h0:2<w.heap.size):
    Calls Tryz.prog 4 #[.int .i64 d,.slice al nl cl,.slice ad m cd,.slice ai n ci,.int .u64 (N:Int)] w fun e w'=>e=.returned (.bool true)/\Below w.heap.size w w':=by
  have cn:=HX.zbD d 2 (by decide) w;have i1:¬ (200:Int)<(nl:Int):=by omega
  have i2:¬ (200:Int)<(m:Int):=by omega
  have i3:¬ (200:Int)<(n:Int):=by omega
  have HA:Aside (n<=200/\L.length=n/\(ai=none->ci=0)/\NUML w ai L/\(∀ x∈L,x<2 ^ 64)/\nl<=200):=⟨hn,hl,hci,hL,hx,hnl⟩
  have HD:Aside (R.length=m/\NUML w ad R/\(∀ x∈R,x<2 ^ 64)/\m<=200):=⟨hr,hR,hxr,hm⟩
  have HF:Aside (Flat w al nl lv/\HSS nl lv/\nl<=200):=⟨hFl,⟨hFl.1,hFl.2.2⟩,hnl⟩
  have tab:Aside (∀ W,Below w.heap.size w W->Tabled W/\HX.Tabled W/\0<W.heap.size):=fun W hb=>⟨hT.below (by omega) hb,hX.below hb,by have:=hb.size;omega⟩
  have GB:Aside (1<w.heap.size):=hX.2.2;clear hFl hl hci hL hx hnl hm hn hr hR hxr hT hX h0;go_enter Tryz.func4,Tryz.ntmps4;go_wp2_with fail
  refine cn.mono ?_;rintro e w1 ⟨g,rfl,hg,hH,hb1⟩;clear cn i1 i2 i3;have A1:Aside (HX.FOREST w1 w.heap.size g d 2 0 (fun _=>none) (LFM lv)/\Below w.heap.size w w1/\HX.Has w1 g (HX.z6b d 2) 73/\w.heap.size<=g):=⟨HX.FOREST.new hH (by decide) hg (LFM lv),hb1,hH,hg⟩
  have HG:Aside (w.heap.size<=g):=hg;clear hg hH hb1;have ct:=z4Q g w1;go_wp2_with fail
  refine ct.mono ?_;rintro e w1' ⟨rfl,rfl⟩;clear ct;have co:=zh8 d (TVAL d (LFM lv)) al nl cl lv w1 (HF.out.1.below A1.out.2.1) (by have:=HF.out;omega) (fun i hi=>zcb HF.out.2.1 hi) (fun h k hk=>by rw [zdp,zdD]) (fun h k hk=>zaM (fun i hi j=>z6g (z97 HF.out.2.1 hi) j) hk);generalize ((HX.WID d:Nat):Int)=D at *
  go_wp2_with fail
  refine co.mono ?_;rintro e w2 ⟨gt,gs,l,a,c,rfl,hRT,hlen,hnode,hb2⟩;clear co;have HN:Aside (l.length=z01 nl/\∀ h k,(k+1)*2 ^ h<=nl->l[PLC h k]?=some ⟨TVAL d (LFM lv) h k,true,0⟩):=⟨hlen,hnode⟩
  obtain ⟨B2,hB2⟩:∃ B2,w1.heap.size=B2:=⟨_,rfl⟩
  have A2:Aside (HX.FOREST w2 w.heap.size g d 2 0 (fun _=>none) (LFM lv)/\SIDES w w2 g (fun _=>none) B2 gt gs D nl l a c):=by
    rw [<-hB2];exact ⟨A1.out.1.below hb2,zdu A1.out.2.2.1 A1.out.2.1 hRT hb2⟩
  clear hRT hlen hnode hb2 A1 hB2;go_wp2_with fail
  go_loopg [14] nl (fun r s14 wx=>∃ (i:Nat) (C:HX.z02),s14=.int .i64 (i:Int)/\Aside (i+r=nl/\HX.FOREST wx w.heap.size g d 2 i C (LFM lv)/\SIDES w wx g C B2 gt gs D nl l a c))
  case atStart=>exact ⟨0,_,rfl,by omega,A2.out⟩
  case round=>
    obtain ⟨i,C,rfl,A⟩:=hrel;clear A2;cases gk with
    | succ r=>
      have hin:i<nl:=by have:=A.out.1;omega
      have hlt:(i:Int)<(nl:Int):=by omega
      obtain ⟨lb,lo,rfl,hlb,_⟩:=HF.out.1.2.1 (by omega);have hrg:wr.rangeAt lb (lo+i*32) (z00 (HSH lv i)):=(HF.out.1.below A.out.2.2.bel).at hin;have hI:=z97 HF.out.2.1 hin;have cA:=HX.zdE A.out.2.1 (LFM lv i) (fun j=>z6g hI j) (by have:=HF.out;omega) (tab.out wr A.out.2.2.bel).2.1 GB.out A.out.2.2.bel.size;have h32:=hI.1;rw [show HX.UARR .u8 32 (LFM lv i)=(z00 (HSH lv i)).toArray from (z48 hI).symm] at cA;have ei:wrap64 ((i:Int)+1)=((i+1:Nat):Int):=by have:=HF.out;unfold wrap64;omega
      have A3:Aside (i+1+r=nl):=by have:=A.out.1;show i+1+r=nl;clear ei;omega
      clear hin hlb hI;go_wp2_with (refine wpList_load_mid rfl 35 (.tmp 67) rfl lb (lo+i*32) rfl (z00 (HSH lv i)) _ hrg Tryz.underlying35 rfl (z0w h32) ?_)
      refine cA.mono ?_;rintro e w3 ⟨rfl,C',a1,a2,a3⟩
      have A4:Aside (HX.FOREST w3 w.heap.size g d 2 (i+1) C' (LFM lv)/\SIDES w w3 g C' B2 gt gs D nl l a c):=by
        refine ⟨a1.congr fun k hk=>?_,A.out.2.2.step a2 a3⟩;unfold HX.z0E;split
        · rename_i e;rw [e]
        · rfl
      clear cA hrg a1 a2 a3 A;go_wp2_with fail
      go_roundg r
      case measure=>exact Nat.lt_succ_self _
      case rel=>exact ⟨i+1,C',by first | rfl | (rw [ei]),A3.out,A4.out⟩
    | zero=>
      obtain rfl:i=nl:=by have:=A.out.1;omega
      have hlt:¬ (i:Int)<(i:Int):=by omega
      have A5:Aside (BOTHD w wr g 2 (z01 i) (z01 i) B2 gt gs D i a c l C (z01 i)):=zgm A.out.2.1 A.out.2.2 HN.out.1 HN.out.2;have HN2:Aside (z01 i<2 ^ 40):=by show z01 i<2 ^ 40;have:=HF.out;unfold z01;omega
      clear A HN HF GB;go_wp2_with fail
      clear hlt;generalize i=nl at *
      go_loopg [15] m (fun r s15 wx=>∃ (i:Nat) (l':List RND) (C:HX.z02) (al':Nat),s15=.int .i64 (i:Int)/\Aside (i+r=m/\BOTHD w wx g 2 (z01 nl) (z01 nl) B2 gt gs D nl a c l' C al'))
      case atStart=>exact ⟨0,l,C,_,rfl,by omega,A5.out⟩
      case round=>
        obtain ⟨i,l',C,al',rfl,A⟩:=hrel;clear A5;cases gk with
        | succ r=>
          have hin:i<m:=by have:=A.out.1;omega
          have hlt:(i:Int)<(m:Int):=by omega
          obtain ⟨x,ex⟩:∃ x,R[i]?=some x:=⟨_,List.getElem?_eq_getElem (by have:=HD.out;omega)⟩
          obtain ⟨db,dof,rfl,hdb,hdc⟩:=HD.out.2.1 (by have:=HD.out;omega);have x64:=HD.out.2.2.1 x (List.mem_of_getElem? ex);have CD:Aside (∀ W,Below w.heap.size w W->W.cell? ⟨db,dof+i,none⟩=some (.int .u64 (x:Int))):=fun W hb=>(hb.cell (p:=⟨db,dof+i,none⟩) hdb).trans (hdc i x ex);have ei:wrap64 ((i:Int)+1)=((i+1:Nat):Int):=by have:=HD.out;unfold wrap64;omega
          have A3:Aside (i+1+r=m):=by have:=A.out.1;show i+1+r=m;clear ei;omega
          have B0:BOTHD w wr.drew g 2 (z01 nl) (z01 nl) B2 gt gs D nl a c l' C al':=A.out.2.below (Below.refl _ _).drew;clear hin hdb hdc ex A;go_upto_region 14 with fail
          refine zf9 wr g gt gs db dof m cd i x (RDRP l' x) hlt (fun W=>BOTHD w W g 2 (z01 nl) (z01 nl) B2 gt gs D nl a c l' C al') (fun W=>zbY w W g 2 (z01 nl) (z01 nl) B2 gt gs D nl a c l' x) (fun W=>∃ l2 C2 al2,BOTHD w W g 2 (z01 nl) (z01 nl) B2 gt gs D nl a c l2 C2 al2) B0 (fun W h=>⟨h.sd.rt.box.cell 2,CD.out W h.sd.bel⟩) (fun W h=>?_) (fun W h=>?_) (fun W h=>(z4Q g W).mono fun e W' he=>⟨he.1,he.2 ▸ h⟩) (fun W h=>zbZ h x x64 HG.out HN2.out) (fun W h=>z9W x h) (fun _ _ _ _ _ h=>h) ?_
          · obtain ⟨C2,al2,_,k2,_⟩:=h
            exact ⟨k2.rt.box.cell 2,CD.out W k2.bel⟩
          · obtain ⟨l2,C2,al2,k2⟩:=h
            exact ⟨k2.sd.rt.box.cell 2,CD.out W k2.sd.bel⟩
          rintro w3 ⟨l2,C2,al2,k2⟩;have A4:Aside (BOTHD w w3 g 2 (z01 nl) (z01 nl) B2 gt gs D nl a c l2 C2 al2):=k2;clear B0 k2 CD x64;dsimp only;go_wp2_with fail
          go_roundg r
          case measure=>exact Nat.lt_succ_self _
          case rel=>exact ⟨i+1,l2,C2,al2,by first | rfl | (rw [ei]),A3.out,A4.out⟩
        | zero=>
          obtain rfl:i=m:=by have:=A.out.1;omega
          have hlt:¬ (i:Int)<(i:Int):=by omega
          have S0:Aside (BOTHD w wr g 2 (z01 nl) (z01 nl) B2 gt gs D nl a c l' C al'):=A.out.2;clear A HD HN2 HG;obtain ⟨E,hE⟩:∃ E,z0h L N=E:=⟨_,rfl⟩
          obtain ⟨P,hP⟩:∃ P,PLCA L N=P:=⟨_,rfl⟩
          have hfew:P.length<=20000:=by rw [<-hP];exact zdB (by have:=HA.out;omega)
          have h64:∀ p∈P,p<2 ^ 64:=by rw [<-hP];exact zgu L N
          have cp:=z6S L N ai n ci wr HA.out.2.1 (by have:=HA.out;omega) HA.out.2.2.2.2.1 (HA.out.2.2.2.1.keep S0.out.sd.bel)
          have MK:Aside (∀ W g1 cap,BOTHD w W g 2 (z01 nl) (z01 nl) B2 gt gs D nl a c l' C al'->NUML W (some ⟨g1,0,none⟩) L->n<=cap->g1<W.heap.size->Calls Tryz.prog 22 #[.iface 25 (.pointer (some ⟨g,0,none⟩)),.slice (some ⟨g1,0,none⟩) n cap,.int .u64 (N:Int)] W (z56 W (fun p=>(RGOT l' p).2) (fun p=>(RGOT l' p).1) E P N L)):=fun W g1 cap hB hN1 hcap hg1=>by
            refine za0 L N g (fun p=>(RGOT l' p).2) (fun p=>(RGOT l' p).1) (fun p=>z8O hB.sd.rt.store.is p) (some ⟨g1,0,none⟩) n cap W E P HA.out.2.1 (by have:=HA.out;omega) (fun e=>by cases e) hN1 (by omega) (hB.noded P h64) fun W' hW'=>?_;have tb:=tab.out W' (hB.sd.bel.trans (hW'.mono hB.sd.bel.size));have:=z4m L N (some ⟨g1,0,none⟩) n cap W' HA.out.2.1 (by have:=HA.out;omega) hcap (fun e=>by cases e) (fun x e=>by cases e;exact ⟨Nat.lt_of_lt_of_le hg1 hW'.size,rfl⟩) (hN1.keep hW') tb.1 tb.2.2;rw [hE,hP] at this;exact this
          rw [hE,hP] at cp;unfold ANSN at cp;obtain ⟨K,hK⟩:∃ K,P.length=K:=⟨_,rfl⟩
          have HP:Aside (P.length=K/\K<=20000):=⟨hK,by omega⟩
          rw [hK] at cp;clear hE hP hfew h64 hK;go_wp2_with fail
          refine cp.mono ?_;rintro e w3 ⟨ap,kp,rfl,op,hb3⟩;clear cp;by_cases hE0:E=0
          · subst hE0
            have S3:Aside (BOTHD w w3 g 2 (z01 nl) (z01 nl) B2 gt gs D nl a c l' C al'):=S0.out.below hb3;have ca:=zha S3.out.sd.rt P ap K kp HP.out.1 (z4j op HP.out.1) (by have:=HP.out;omega);clear op hb3;go_wp2_with fail
            refine ca.mono ?_;rintro e w4 h4;clear ca;obtain ⟨hb4,h4⟩:=zgt h4;have S:Aside (BOTHD w w4 g 2 (z01 nl) (z01 nl) B2 gt gs D nl a c l' C al'/\Below w.heap.size w w4):=⟨S3.out.below hb4,S3.out.sd.bel.trans (hb4.mono S3.out.sd.bel.size)⟩
            rcases h4 with ⟨hV,rfl⟩ | ⟨hV,ol,oc,rfl,o4⟩
            · obtain ⟨V,hVe⟩:∃ V,FSTE (fun p=>(RGOT l' p).1) P=V:=⟨_,rfl⟩
              have hW:WNT (fun p=>(RGOT l' p).1) 0 P=V:=by unfold WNT;rw [if_pos rfl];exact hVe
              rw [hVe] at hV;rw [hVe];have HV:Aside (V≠0):=hV;clear hV hVe hb4 S3 S0;have cm:=z3e ai n ci L HA.out.2.1 (by have:=HA.out;omega) HA.out.2.2.1 w4 (HA.out.2.2.2.1.keep S.out.2);go_wp2_with fail
              refine cm.mono ?_;rintro e w5 ⟨g1,q1,rfl,G1⟩;clear cm;have S5:Aside (BOTHD w w5 g 2 (z01 nl) (z01 nl) B2 gt gs D nl a c l' C al'/\Below w.heap.size w w5/\NUML w5 (some ⟨g1,0,none⟩) L/\n+1<=q1/\g1<w5.heap.size/\w.heap.size<=g1/\w5.ownsRow w.heap.size 24 1 (.slice (some ⟨g1,0,none⟩) n q1) n (z06 L)/\w5.cell? ⟨g1,n,none⟩=some (.int .u64 171)):=⟨S.out.1.below G1.below,S.out.2.trans (G1.below.mono S.out.2.size),G1.lies HA.out.2.1,G1.room,G1.lt,Nat.le_trans S.out.2.size G1.base,z0o G1.own S.out.2.size,G1.mark⟩
              clear G1;have ck:=MK.out w5 g1 q1 S5.out.1 S5.out.2.2.1 (by have:=S5.out;omega) S5.out.2.2.2.2.1;go_wp2_with fail
              refine ck.mono ?_;rintro e w6 h6;clear ck;obtain ⟨hb6,h6⟩:=z2w h6;rw [hW] at h6;rcases h6 with ⟨_,rfl⟩ | ⟨h60,_⟩
              case inr=>exact absurd h60 HV.out
              have hne:(V == 0)=false:=beq_eq_false_iff_ne.2 HV.out;have hnn:(V != 0)=true:=bne_iff_ne.2 HV.out;go_upto_region 22 with fail
              obtain ⟨w7,e7⟩:∃ x,w6.alloc (.cells #[.int .u64 0,.slice none 0 0,.slice none 0 0] 60)=x:=⟨_,rfl⟩
              have hb7:Below w6.heap.size w6 w7:=by rw [<-e7];exact (Below.refl _ _).alloc (Nat.le_refl _) _
              have h20:Has w7 w6.heap.size #[.int .u64 0,.slice none 0 0,.slice none 0 0] 60:=by rw [<-e7];exact Has.new _ _ _
              rw [e7];have hb57:Below w5.heap.size w5 w7:=hb6.trans (hb7.mono hb6.size);have B57:Aside (Below w5.heap.size w5 w7/\Has w7 w6.heap.size #[.int .u64 0,.slice none 0 0,.slice none 0 0] 60/\w5.heap.size<=w6.heap.size):=⟨hb57,h20,hb6.size⟩
              have ck:=MK.out w7 g1 q1 (S5.out.1.below hb57) (S5.out.2.2.1.keep hb57) (by have:=S5.out;omega) (Nat.lt_of_lt_of_le S5.out.2.2.2.2.1 hb57.size);generalize w6.heap.size=b20 at *
              clear e7 hb7 h20 hb57 hb6;go_wp2_with fail
              refine ck.mono ?_;rintro e w8 h8;clear ck;obtain ⟨hb8,h8⟩:=z2w h8;rw [hW] at h8;rcases h8 with ⟨_,rfl⟩ | ⟨h60,_⟩
              case inr=>exact absurd h60 HV.out
              go_upto_region 23 with fail
              obtain ⟨w9,e9⟩:∃ x,w8.alloc (.cells #[.int .u64 0,.slice none 0 0,.slice none 0 0] 60)=x:=⟨_,rfl⟩
              have hb9:Below w8.heap.size w8 w9:=by rw [<-e9];exact (Below.refl _ _).alloc (Nat.le_refl _) _
              have h22:Has w9 w8.heap.size #[.int .u64 0,.slice none 0 0,.slice none 0 0] 60:=by rw [<-e9];exact Has.new _ _ _
              rw [e9];have hb79:Below w7.heap.size w7 w9:=hb8.trans (hb9.mono hb8.size);have B59:Aside (Below w5.heap.size w5 w9):=B57.out.1.trans (hb79.mono B57.out.1.size);have H9:Aside (Has w9 b20 #[.int .u64 0,.slice none 0 0,.slice none 0 0] 60/\Has w9 w8.heap.size #[.int .u64 0,.slice none 0 0,.slice none 0 0] 60/\w5.heap.size<=b20/\w5.heap.size<=w8.heap.size):=⟨B57.out.2.1.keep hb79,h22,B57.out.2.2,by have:=B57.out.1.size;have:=hb8.size;omega⟩
              generalize w8.heap.size=b22 at *
              clear e9 hb9 h22 hb79 hb8 B57;have cs:=z5O g1 n q1 ai ci L HA.out.2.1 (by have:=HA.out;omega) S5.out.2.2.2.1 w9 (S5.out.2.2.1.keep B59.out) (HA.out.2.2.2.1.keep (S5.out.2.1.trans (B59.out.mono S5.out.2.1.size))) (Nat.lt_of_lt_of_le S5.out.2.2.2.2.1 B59.out.size) ((B59.out.cell (p:=⟨g1,n,none⟩) S5.out.2.2.2.2.1).trans S5.out.2.2.2.2.2.2.2);go_wp2_with fail
              refine cs.mono ?_;rintro e w10 ⟨rfl,hb10⟩;clear cs;go_upto_region 26 with fail
              obtain ⟨w110,e11⟩:∃ x,w10.alloc (.cells #[.int .u64 0,.slice none 0 0,.slice none 0 0] 60)=x:=⟨_,rfl⟩
              have B5X:Below w5.heap.size w5 w10:=B59.out.trans (hb10.mono B59.out.size)
              have M11:Aside (MTWO w (w10.alloc (.cells #[.int .u64 0,.slice none 0 0,.slice none 0 0] 60)) g1 w5.heap.size b20 b22 w10.heap.size 0 0 0 [] [] none none none none none none 0 0 0 0 0 0):=by
                have hb11:Below w10.heap.size w10 (w10.alloc (.cells #[.int .u64 0,.slice none 0 0,.slice none 0 0] 60)):=(Below.refl _ _).alloc (Nat.le_refl _) _;have hb911:Below w9.heap.size w9 (w10.alloc (.cells #[.int .u64 0,.slice none 0 0,.slice none 0 0] 60)):=hb10.trans (hb11.mono hb10.size);refine ⟨H9.out.1.keep hb911,H9.out.2.1.keep hb911,Has.new _ _ _,⟨rfl,.inl ⟨rfl,rfl⟩⟩,⟨rfl,.inl ⟨rfl,rfl⟩⟩,⟨rfl,.inl ⟨rfl,rfl⟩⟩,⟨rfl,.inl ⟨rfl,rfl⟩⟩,fun h=>by simp at h,⟨rfl,fun h=>by omega,fun x hx=>by cases hx⟩,⟨fun _ x e=>(by cases e),fun x e=>by cases e⟩,zaW fun g e=>by simp [Value.ownBlock] at e,rfl,⟨by omega,by omega⟩,fun x hx=>(by cases hx),⟨S5.out.2.2.2.2.2.1,S5.out.2.2.2.2.1,H9.out.2.2.1,H9.out.2.2.2,B5X.size⟩,?_⟩;exact S5.out.2.1.trans ((B5X.trans (hb11.mono B5X.size)).mono S5.out.2.1.size)
              have OWNG:Aside (∀ W,Below (w10.alloc (.cells #[.int .u64 0,.slice none 0 0,.slice none 0 0] 60)).heap.size (w10.alloc (.cells #[.int .u64 0,.slice none 0 0,.slice none 0 0] 60)) W->W.ownsRow w.heap.size 24 1 (.slice (some ⟨g1,0,none⟩) n q1) n (z06 L)):=fun W hW=>by
                have hb11:Below w10.heap.size w10 (w10.alloc (.cells #[.int .u64 0,.slice none 0 0,.slice none 0 0] 60)):=(Below.refl _ _).alloc (Nat.le_refl _) _;have h5:=B5X.trans (hb11.mono B5X.size);exact z0v S5.out.2.2.2.2.2.2.1 fun k e=>(h5.trans (hW.mono h5.size)).block k (S5.out.2.2.2.2.2.2.1.lt k e).2
              clear e11 H9 B59 B5X S5 hb10;go_upto_region 28 with (refine wpList_store_row rfl 60 (.tmp 24) (.tmp 145) rfl _ _ rfl rfl 60 _ (Has.new w10 _ _) (by kernel_rfl) rfl (by simp [Value.oneCell']) ?_;rw [World.setRow_alloc_new])
              generalize w10.alloc (.cells #[.int .u64 0,.slice none 0 0,.slice none 0 0] 60)=w11 at *
              generalize w10.heap.size=b24 at *
              have cs:=M11.out.same;have x0:=M11.out.ha.cell 0;have x1:=M11.out.ha.cell 1;have x2:=M11.out.ha.cell 2;have z0:=M11.out.hx.cell 0;have z1:=M11.out.hx.cell 1;have z2:=M11.out.hx.cell 2;go_wp2_with fail
              refine cs.mono ?_;rintro e w13 ⟨rfl,hb13⟩;clear cs x0 x1 x2 z0 z1 z2;have M13:=M11.out.below hb13;have M13B:Aside (Below w11.heap.size w11 w13):=hb13;have cs:=M13.same2;have x0:=M13.hb.cell 0;have x1:=M13.hb.cell 1;have x2:=M13.hb.cell 2;have z0:=M13.hx.cell 0;have z1:=M13.hx.cell 1;have z2:=M13.hx.cell 2;have M13:=Aside.mk M13;clear hb13;go_wp2_with fail
              refine cs.mono ?_;rintro e w12 ⟨rfl,hb12⟩;clear cs x0 x1 x2 z0 z1 z2;have M12:=Aside.mk (M13.out.below hb12);have M12B:Aside (Below w11.heap.size w11 w12):=M13B.out.trans (hb12.mono M13B.out.size);clear hb12 M13 M13B M11;have O12:Aside (w12.ownsRow w.heap.size 24 1 (.slice (some ⟨g1,0,none⟩) n q1) n (z06 L)):=OWNG.out _ M12B.out;clear OWNG;go_wp2_with fail
              go_loopg [25] n (fun q s25 wx=>∃ (j:Nat) (H:List Nat),s25=.int .i64 (j:Int)/\Aside (j+q=n/\H.length=n/\wx.ownsRow w.heap.size 24 1 (.slice (some ⟨g1,0,none⟩) n q1) n (z06 H)/\BUT g1 w12 wx))
              case atStart=>exact ⟨0,L,rfl,by omega,HA.out.2.1,O12.out,BUT.refl _ _⟩
              case round=>
                obtain ⟨j,H,rfl,A⟩:=hrel;cases gk with
                | succ q=>
                  have hjn:j<n:=by have:=A.out.1;omega
                  have hlt:(j:Int)<(n:Int):=by omega
                  obtain ⟨x,ex⟩:∃ x,H[j]?=some x:=⟨_,List.getElem?_eq_getElem (by have:=A.out.2.1;omega)⟩
                  have x0:wr.cell? ⟨g1,j,none⟩=some (.int .u64 (x:Int)):=by
                    rw [A.out.2.2.1.cellAt j (by omega),z06,List.getElem?_map,ex];rfl
                  have f0:=A.out.2.2.1.frozenAt j;obtain ⟨z,ez⟩:∃ z:Nat,IntKind.u64.wrap ((x:Int)+1)=(z:Int):=⟨(IntKind.u64.wrap ((x:Int)+1)).toNat,by rw [z0b];omega⟩
                  have ej:wrap64 ((j:Int)+1)=((j+1:Nat):Int):=by have:=HA.out;clear ez;unfold wrap64;omega
                  have Z:Aside (j+1+q=n/\(H.set j z).length=n/\(wr.setCell ⟨g1,j,none⟩ (.int .u64 (z:Int))).ownsRow w.heap.size 24 1 (.slice (some ⟨g1,0,none⟩) n q1) n (z06 (H.set j z))/\BUT g1 w12 (wr.setCell ⟨g1,j,none⟩ (.int .u64 (z:Int)))):=by
                    have hs:=(A.out.2.2.1.stored j (.int .u64 (z:Int)))
                    have e2:(z06 H).set j (.int .u64 (z:Int))=z06 (H.set j z):=by unfold z06;rw [List.map_set]
                    rw [e2] at hs;refine ⟨by have:=A.out.1;clear ej ez;omega,by rw [List.length_set];exact A.out.2.1,hs.1,A.out.2.2.2.trans ⟨fun k hk hne=>hs.2.block k hk fun e=>hne (by simpa [Value.ownBlock] using e),(Below.refl _ _).grown hs.2 (Nat.le_of_lt (A.out.2.2.1.lt g1 rfl).2) (fun k e=>by simp at e;omega)⟩⟩
                  clear A ex hjn;go_wp2_with fail
                  go_roundg q
                  case measure=>exact Nat.lt_succ_self _
                  case rel=>exact ⟨j+1,H.set j z,by first | rfl | (rw [ej]),Z.out⟩
                | zero=>
                  obtain rfl:j=n:=by have:=A.out.1;omega
                  have hlt:¬ (j:Int)<(j:Int):=by omega
                  have M13:=M12.out.but A.out.2.2.2;have cs:=M13.same;have x0:=M13.ha.cell 0;have x1:=M13.ha.cell 1;have x2:=M13.ha.cell 2;have z0:=M13.hx.cell 0;have z1:=M13.hx.cell 1;have z2:=M13.hx.cell 2;have M13:=Aside.mk M13;clear A M12 O12;go_wp2_with fail
                  refine cs.mono ?_;rintro e w14 ⟨rfl,hb14⟩;clear cs x0 x1 x2 z0 z1 z2;have M14:=M13.out.below hb14;have cs:=M14.parts;have x0:=M14.ha.cell 0;have x1:=M14.ha.cell 1;have x2:=M14.ha.cell 2;have z0:=M14.hb.cell 0;have z1:=M14.hb.cell 1;have z2:=M14.hb.cell 2;clear M14 hb14;go_wp2_with fail
                  refine cs.mono ?_;rintro e w15 ⟨rfl,hb15⟩;clear cs x0 x1 x2 z0 z1 z2;have ca:=z4i w15 (tab.out w15 hb15).1 (tab.out w15 hb15).2.2;have FB:Aside (Below w.heap.size w w15):=hb15;clear hb15;go_wp2_with fail
                  refine ca.mono ?_;rintro e w16 ⟨rfl,hb16⟩;clear ca;have FN:Aside (Below w.heap.size w w16):=FB.out.trans (hb16.mono FB.out.size);clear hb16 FB;go_wp2_with fail
                  go_ret;exact ⟨rfl,FN.out⟩
            · have hW:WNT (fun p=>(RGOT l' p).1) 0 P=0:=by unfold WNT;rw [if_pos rfl];exact hV
              rw [HP.out.1] at o4;rw [HP.out.1];have HK:Aside (P.length=K/\K<=20000/\(∀ W,Below w4.heap.size w4 W->Flat W ol K (GCAT (fun p=>(RGOT l' p).2) P))/\∀ x,ol=some x->x.block<w4.heap.size):=⟨HP.out.1,HP.out.2,fun W hb=>(z5H o4 (z7r S.out.1.byte P)).below hb,fun x e=>(o4.lt x.block (by rw [e];rfl)).2⟩
              clear hV hb4 S3 S0 o4;have cm:=z3e ai n ci L HA.out.2.1 (by have:=HA.out;omega) HA.out.2.2.1 w4 (HA.out.2.2.2.1.keep S.out.2);go_wp2_with fail
              refine cm.mono ?_;rintro e w5 ⟨g1,q1,rfl,G1⟩;clear cm;have S5:Aside (BOTHD w w5 g 2 (z01 nl) (z01 nl) B2 gt gs D nl a c l' C al'/\Below w.heap.size w w5/\NUML w5 (some ⟨g1,0,none⟩) L/\n+1<=q1/\g1<w5.heap.size/\w.heap.size<=g1/\w5.ownsRow w.heap.size 24 1 (.slice (some ⟨g1,0,none⟩) n q1) n (z06 L)/\w5.cell? ⟨g1,n,none⟩=some (.int .u64 171)):=⟨S.out.1.below G1.below,S.out.2.trans (G1.below.mono S.out.2.size),G1.lies HA.out.2.1,G1.room,G1.lt,Nat.le_trans S.out.2.size G1.base,z0o G1.own S.out.2.size,G1.mark⟩
              have S5B:Aside (Below w4.heap.size w4 w5):=G1.below;have G1B:Aside (w4.heap.size<=g1):=G1.base;clear G1;have ck:=MK.out w5 g1 q1 S5.out.1 S5.out.2.2.1 (by have:=S5.out;omega) S5.out.2.2.2.2.1;go_wp2_with fail
              refine ck.mono ?_;rintro e w6 h6;clear ck;obtain ⟨hb6,h6⟩:=z2w h6;rw [hW] at h6;rcases h6 with ⟨h60,_⟩ | ⟨_,a1,c1,a2,c2,rfl,o1,o2⟩
              case inl=>exact absurd rfl h60
              rw [HA.out.2.1] at o1;rw [HK.out.1] at o2;rw [HA.out.2.1,HK.out.1];go_upto_region 22 with fail
              obtain ⟨w7,e7⟩:∃ x,w6.alloc (.cells #[.int .u64 (N:Int),.slice a1 n c1,.slice a2 K c2] 60)=x:=⟨_,rfl⟩
              have hb7:Below w6.heap.size w6 w7:=by rw [<-e7];exact (Below.refl _ _).alloc (Nat.le_refl _) _
              have h20:Has w7 w6.heap.size #[.int .u64 (N:Int),.slice a1 n c1,.slice a2 K c2] 60:=by rw [<-e7];exact Has.new _ _ _
              rw [e7];have hb57:Below w5.heap.size w5 w7:=hb6.trans (hb7.mono hb6.size);have B57:Aside (Below w5.heap.size w5 w7/\Has w7 w6.heap.size #[.int .u64 (N:Int),.slice a1 n c1,.slice a2 K c2] 60/\w5.heap.size<=w6.heap.size/\w7.ownsRow w5.heap.size 24 1 (.slice a1 n c1) n (z06 L)/\w7.ownsRow w5.heap.size 35 32 (.slice a2 K c2) K (z00 (GCAT (fun p=>(RGOT l' p).2) P))):=⟨hb57,h20,hb6.size,z0v o1 fun k e=>hb7.block k (o1.lt k e).2,z0v o2 fun k e=>hb7.block k (o2.lt k e).2⟩
              have ck:=MK.out w7 g1 q1 (S5.out.1.below hb57) (S5.out.2.2.1.keep hb57) (by have:=S5.out;omega) (Nat.lt_of_lt_of_le S5.out.2.2.2.2.1 hb57.size);generalize w6.heap.size=b20 at *
              clear e7 hb7 h20 hb57 hb6 o1 o2;go_wp2_with fail
              refine ck.mono ?_;rintro e w8 h8;clear ck;obtain ⟨hb8,h8⟩:=z2w h8;rw [hW] at h8;rcases h8 with ⟨h60,_⟩ | ⟨_,y1,d1,y2,d2,rfl,o1,o2⟩
              case inl=>exact absurd rfl h60
              rw [HA.out.2.1] at o1;rw [HK.out.1] at o2;rw [HA.out.2.1,HK.out.1];go_upto_region 23 with fail
              obtain ⟨w9,e9⟩:∃ x,w8.alloc (.cells #[.int .u64 (N:Int),.slice y1 n d1,.slice y2 K d2] 60)=x:=⟨_,rfl⟩
              have hb9:Below w8.heap.size w8 w9:=by rw [<-e9];exact (Below.refl _ _).alloc (Nat.le_refl _) _
              have h22:Has w9 w8.heap.size #[.int .u64 (N:Int),.slice y1 n d1,.slice y2 K d2] 60:=by rw [<-e9];exact Has.new _ _ _
              rw [e9];have hb79:Below w7.heap.size w7 w9:=hb8.trans (hb9.mono hb8.size);have B59:Aside (Below w5.heap.size w5 w9):=B57.out.1.trans (hb79.mono B57.out.1.size)
              have H9:Aside (Has w9 b20 #[.int .u64 (N:Int),.slice a1 n c1,.slice a2 K c2] 60/\Has w9 w8.heap.size #[.int .u64 (N:Int),.slice y1 n d1,.slice y2 K d2] 60/\w5.heap.size<=b20/\w5.heap.size<=w8.heap.size/\w9.ownsRow w5.heap.size 24 1 (.slice a1 n c1) n (z06 L)/\w9.ownsRow w5.heap.size 35 32 (.slice a2 K c2) K (z00 (GCAT (fun p=>(RGOT l' p).2) P))/\w9.ownsRow w5.heap.size 24 1 (.slice y1 n d1) n (z06 L)/\w9.ownsRow w5.heap.size 35 32 (.slice y2 K d2) K (z00 (GCAT (fun p=>(RGOT l' p).2) P))/\APT (.slice a1 n c1) (.slice y1 n d1) (.slice a2 K c2) (.slice y2 K d2)):=by
                have h57:=B57.out.1.size;refine ⟨B57.out.2.1.keep hb79,h22,B57.out.2.2.1,by have:=hb8.size;omega,z0v B57.out.2.2.2.1 fun k e=>hb79.block k (B57.out.2.2.2.1.lt k e).2,z0v B57.out.2.2.2.2 fun k e=>hb79.block k (B57.out.2.2.2.2.lt k e).2,z0o (z0v o1 fun k e=>hb9.block k (o1.lt k e).2) h57,z0o (z0v o2 fun k e=>hb9.block k (o2.lt k e).2) h57,⟨fun k e e'=>?_,fun k e e'=>?_,fun k e e'=>?_,fun k e e'=>?_,fun k e e'=>?_,fun k e e'=>?_⟩⟩
                · have:=(B57.out.2.2.2.1.lt k e).2;have:=(o1.lt k e').1;omega
                · exact z7y B57.out.2.2.2.1 B57.out.2.2.2.2 k e e'
                · have:=(B57.out.2.2.2.1.lt k e).2;have:=(o2.lt k e').1;omega
                · have:=(B57.out.2.2.2.2.lt k e').2;have:=(o1.lt k e).1;omega
                · exact z7y o1 o2 k e e'
                · have:=(B57.out.2.2.2.2.lt k e).2;have:=(o2.lt k e').1;omega
              generalize w8.heap.size=b22 at *
              clear e9 hb9 h22 hb79 hb8 B57 o1 o2;have cs:=z5O g1 n q1 ai ci L HA.out.2.1 (by have:=HA.out;omega) S5.out.2.2.2.1 w9 (S5.out.2.2.1.keep B59.out) (HA.out.2.2.2.1.keep (S5.out.2.1.trans (B59.out.mono S5.out.2.1.size))) (Nat.lt_of_lt_of_le S5.out.2.2.2.2.1 B59.out.size) ((B59.out.cell (p:=⟨g1,n,none⟩) S5.out.2.2.2.2.1).trans S5.out.2.2.2.2.2.2.2);go_wp2_with fail
              refine cs.mono ?_;rintro e w10 ⟨rfl,hb10⟩;clear cs;go_upto_region 26 with fail
              have B5X:Below w5.heap.size w5 w10:=B59.out.trans (hb10.mono B59.out.size)
              have M11:Aside (MTWO w (w10.alloc (.cells #[.int .u64 (N:Int),.slice ai n ci,.slice ol K oc] 60)) g1 w5.heap.size b20 b22 w10.heap.size (N:Int) n K L (GCAT (fun p=>(RGOT l' p).2) P) a1 a2 y1 y2 ai ol c1 c2 d1 d2 ci oc):=by
                have hb11:Below w10.heap.size w10 (w10.alloc (.cells #[.int .u64 (N:Int),.slice ai n ci,.slice ol K oc] 60)):=(Below.refl _ _).alloc (Nat.le_refl _) _;have hb911:Below w9.heap.size w9 (w10.alloc (.cells #[.int .u64 (N:Int),.slice ai n ci,.slice ol K oc] 60)):=hb10.trans (hb11.mono hb10.size);have hb511:Below w5.heap.size w5 (w10.alloc (.cells #[.int .u64 (N:Int),.slice ai n ci,.slice ol K oc] 60)):=B5X.trans (hb11.mono B5X.size);have own:∀ {t:TypeId} {s k:Nat} {v:Value} {xs:List Value},w9.ownsRow w5.heap.size t s v k xs->(w10.alloc (.cells #[.int .u64 (N:Int),.slice ai n ci,.slice ol K oc] 60)).ownsRow w5.heap.size t s v k xs:=fun o=>z0v o fun k e=>hb911.block k (o.lt k e).2;have h9:=H9.out;have hs:=S5.out;refine ⟨h9.1.keep hb911,h9.2.1.keep hb911,Has.new _ _ _,own h9.2.2.2.2.1,own h9.2.2.2.2.2.1,own h9.2.2.2.2.2.2.1,own h9.2.2.2.2.2.2.2.1,HA.out.2.2.2.1.keep (hs.2.1.trans (hb511.mono hs.2.1.size)),(HK.out.2.2.1 w5 S5B.out).below hb511,⟨fun h0 x e=>?_,fun x e=>?_⟩,h9.2.2.2.2.2.2.2.2,HA.out.2.1,⟨by have:=HA.out;omega,HK.out.2.1⟩,?_,⟨hs.2.2.2.2.2.1,hs.2.2.2.2.1,h9.2.2.1,h9.2.2.2.1,B5X.size⟩,?_⟩
                · obtain ⟨b,o,e',hlt,_⟩:=HA.out.2.2.2.1 h0
                  rw [e'] at e;cases e;have h2:=hs.2.2.2.2.2.1;show b≠g1;omega
                · have h1:=HK.out.2.2.2 x e
                  have:=G1B.out;omega
                · exact z7r hs.1.byte P
                · exact hs.2.1.trans (hb511.mono hs.2.1.size)
              have OWNG:Aside (∀ W,Below (w10.alloc (.cells #[.int .u64 (N:Int),.slice ai n ci,.slice ol K oc] 60)).heap.size (w10.alloc (.cells #[.int .u64 (N:Int),.slice ai n ci,.slice ol K oc] 60)) W->W.ownsRow w.heap.size 24 1 (.slice (some ⟨g1,0,none⟩) n q1) n (z06 L)):=fun W hW=>by
                have hb11:Below w10.heap.size w10 (w10.alloc (.cells #[.int .u64 (N:Int),.slice ai n ci,.slice ol K oc] 60)):=(Below.refl _ _).alloc (Nat.le_refl _) _;have h5:=B5X.trans (hb11.mono B5X.size);exact z0v S5.out.2.2.2.2.2.2.1 fun k e=>(h5.trans (hW.mono h5.size)).block k (S5.out.2.2.2.2.2.2.1.lt k e).2
              clear H9 B59 B5X S5 hb10 S5B G1B;generalize w10.alloc (.cells #[.int .u64 (N:Int),.slice ai n ci,.slice ol K oc] 60)=w11 at *
              generalize w10.heap.size=b24 at *
              have cs:=M11.out.same;have x0:=M11.out.ha.cell 0;have x1:=M11.out.ha.cell 1;have x2:=M11.out.ha.cell 2;have z0:=M11.out.hx.cell 0;have z1:=M11.out.hx.cell 1;have z2:=M11.out.hx.cell 2;go_wp2_with fail
              refine cs.mono ?_;rintro e w13 ⟨rfl,hb13⟩;clear cs x0 x1 x2 z0 z1 z2;have M13:=M11.out.below hb13;have M13B:Aside (Below w11.heap.size w11 w13):=hb13;have cs:=M13.same2;have x0:=M13.hb.cell 0;have x1:=M13.hb.cell 1;have x2:=M13.hb.cell 2;have z0:=M13.hx.cell 0;have z1:=M13.hx.cell 1;have z2:=M13.hx.cell 2;have M13:=Aside.mk M13;clear hb13;go_wp2_with fail
              refine cs.mono ?_;rintro e w12 ⟨rfl,hb12⟩;clear cs x0 x1 x2 z0 z1 z2;have M12:=Aside.mk (M13.out.below hb12);have M12B:Aside (Below w11.heap.size w11 w12):=M13B.out.trans (hb12.mono M13B.out.size);clear hb12 M13 M13B M11;have O12:Aside (w12.ownsRow w.heap.size 24 1 (.slice (some ⟨g1,0,none⟩) n q1) n (z06 L)):=OWNG.out _ M12B.out;clear OWNG;go_wp2_with fail
              go_loopg [25] n (fun q s25 wx=>∃ (j:Nat) (H:List Nat),s25=.int .i64 (j:Int)/\Aside (j+q=n/\H.length=n/\wx.ownsRow w.heap.size 24 1 (.slice (some ⟨g1,0,none⟩) n q1) n (z06 H)/\BUT g1 w12 wx))
              case atStart=>exact ⟨0,L,rfl,by omega,HA.out.2.1,O12.out,BUT.refl _ _⟩
              case round=>
                obtain ⟨j,H,rfl,A⟩:=hrel;cases gk with
                | succ q=>
                  have hjn:j<n:=by have:=A.out.1;omega
                  have hlt:(j:Int)<(n:Int):=by omega
                  obtain ⟨x,ex⟩:∃ x,H[j]?=some x:=⟨_,List.getElem?_eq_getElem (by have:=A.out.2.1;omega)⟩
                  have x0:wr.cell? ⟨g1,j,none⟩=some (.int .u64 (x:Int)):=by
                    rw [A.out.2.2.1.cellAt j (by omega),z06,List.getElem?_map,ex];rfl
                  have f0:=A.out.2.2.1.frozenAt j;obtain ⟨z,ez⟩:∃ z:Nat,IntKind.u64.wrap ((x:Int)+1)=(z:Int):=⟨(IntKind.u64.wrap ((x:Int)+1)).toNat,by rw [z0b];omega⟩
                  have ej:wrap64 ((j:Int)+1)=((j+1:Nat):Int):=by have:=HA.out;clear ez;unfold wrap64;omega
                  have Z:Aside (j+1+q=n/\(H.set j z).length=n/\(wr.setCell ⟨g1,j,none⟩ (.int .u64 (z:Int))).ownsRow w.heap.size 24 1 (.slice (some ⟨g1,0,none⟩) n q1) n (z06 (H.set j z))/\BUT g1 w12 (wr.setCell ⟨g1,j,none⟩ (.int .u64 (z:Int)))):=by
                    have hs:=(A.out.2.2.1.stored j (.int .u64 (z:Int)))
                    have e2:(z06 H).set j (.int .u64 (z:Int))=z06 (H.set j z):=by unfold z06;rw [List.map_set]
                    rw [e2] at hs;refine ⟨by have:=A.out.1;clear ej ez;omega,by rw [List.length_set];exact A.out.2.1,hs.1,A.out.2.2.2.trans ⟨fun k hk hne=>hs.2.block k hk fun e=>hne (by simpa [Value.ownBlock] using e),(Below.refl _ _).grown hs.2 (Nat.le_of_lt (A.out.2.2.1.lt g1 rfl).2) (fun k e=>by simp at e;omega)⟩⟩
                  clear A ex hjn;go_wp2_with fail
                  go_roundg q
                  case measure=>exact Nat.lt_succ_self _
                  case rel=>exact ⟨j+1,H.set j z,by first | rfl | (rw [ej]),Z.out⟩
                | zero=>
                  obtain rfl:j=n:=by have:=A.out.1;omega
                  have hlt:¬ (j:Int)<(j:Int):=by omega
                  have M13:=M12.out.but A.out.2.2.2;have cs:=M13.same;have x0:=M13.ha.cell 0;have x1:=M13.ha.cell 1;have x2:=M13.ha.cell 2;have z0:=M13.hx.cell 0;have z1:=M13.hx.cell 1;have z2:=M13.hx.cell 2;have M13:=Aside.mk M13;clear A M12 O12;go_wp2_with fail
                  refine cs.mono ?_;rintro e w14 ⟨rfl,hb14⟩;clear cs x0 x1 x2 z0 z1 z2;have M14:=M13.out.below hb14;have cs:=M14.parts;have x0:=M14.ha.cell 0;have x1:=M14.ha.cell 1;have x2:=M14.ha.cell 2;have z0:=M14.hb.cell 0;have z1:=M14.hb.cell 1;have z2:=M14.hb.cell 2;clear M14 hb14;go_wp2_with fail
                  refine cs.mono ?_;rintro e w15 ⟨rfl,hb15⟩;clear cs x0 x1 x2 z0 z1 z2;have ca:=z4i w15 (tab.out w15 hb15).1 (tab.out w15 hb15).2.2;have FB:Aside (Below w.heap.size w w15):=hb15;clear hb15;go_wp2_with fail
                  refine ca.mono ?_;rintro e w16 ⟨rfl,hb16⟩;clear ca;have FN:Aside (Below w.heap.size w w16):=FB.out.trans (hb16.mono FB.out.size);clear hb16 FB;go_wp2_with fail
                  go_ret;exact ⟨rfl,FN.out⟩
          · have S:Aside (BOTHD w w3 g 2 (z01 nl) (z01 nl) B2 gt gs D nl a c l' C al'/\Below w.heap.size w w3):=⟨S0.out.below hb3,S0.out.sd.bel.trans (hb3.mono S0.out.sd.bel.size)⟩
            have hW:WNT (fun p=>(RGOT l' p).1) E P=E:=if_neg hE0;have HV:Aside (E≠0):=hE0;have hne0:(E == 0)=false:=beq_eq_false_iff_ne.2 hE0;clear op hb3 S0 hE0;have cm:=z3e ai n ci L HA.out.2.1 (by have:=HA.out;omega) HA.out.2.2.1 w3 (HA.out.2.2.2.1.keep S.out.2);go_wp2_with fail
            refine cm.mono ?_;rintro e w5 ⟨g1,q1,rfl,G1⟩;clear cm;have S5:Aside (BOTHD w w5 g 2 (z01 nl) (z01 nl) B2 gt gs D nl a c l' C al'/\Below w.heap.size w w5/\NUML w5 (some ⟨g1,0,none⟩) L/\n+1<=q1/\g1<w5.heap.size/\w.heap.size<=g1/\w5.ownsRow w.heap.size 24 1 (.slice (some ⟨g1,0,none⟩) n q1) n (z06 L)/\w5.cell? ⟨g1,n,none⟩=some (.int .u64 171)):=⟨S.out.1.below G1.below,S.out.2.trans (G1.below.mono S.out.2.size),G1.lies HA.out.2.1,G1.room,G1.lt,Nat.le_trans S.out.2.size G1.base,z0o G1.own S.out.2.size,G1.mark⟩
            clear G1;have ck:=MK.out w5 g1 q1 S5.out.1 S5.out.2.2.1 (by have:=S5.out;omega) S5.out.2.2.2.2.1;go_wp2_with fail
            refine ck.mono ?_;rintro e w6 h6;clear ck;obtain ⟨hb6,h6⟩:=z2w h6;rw [hW] at h6;rcases h6 with ⟨_,rfl⟩ | ⟨h60,_⟩
            case inr=>exact absurd h60 HV.out
            have hne:(E == 0)=false:=beq_eq_false_iff_ne.2 HV.out;have hnn:(E != 0)=true:=bne_iff_ne.2 HV.out;go_upto_region 22 with fail
            obtain ⟨w7,e7⟩:∃ x,w6.alloc (.cells #[.int .u64 0,.slice none 0 0,.slice none 0 0] 60)=x:=⟨_,rfl⟩
            have hb7:Below w6.heap.size w6 w7:=by rw [<-e7];exact (Below.refl _ _).alloc (Nat.le_refl _) _
            have h20:Has w7 w6.heap.size #[.int .u64 0,.slice none 0 0,.slice none 0 0] 60:=by rw [<-e7];exact Has.new _ _ _
            rw [e7];have hb57:Below w5.heap.size w5 w7:=hb6.trans (hb7.mono hb6.size);have B57:Aside (Below w5.heap.size w5 w7/\Has w7 w6.heap.size #[.int .u64 0,.slice none 0 0,.slice none 0 0] 60/\w5.heap.size<=w6.heap.size):=⟨hb57,h20,hb6.size⟩
            have ck:=MK.out w7 g1 q1 (S5.out.1.below hb57) (S5.out.2.2.1.keep hb57) (by have:=S5.out;omega) (Nat.lt_of_lt_of_le S5.out.2.2.2.2.1 hb57.size);generalize w6.heap.size=b20 at *
            clear e7 hb7 h20 hb57 hb6;go_wp2_with fail
            refine ck.mono ?_;rintro e w8 h8;clear ck;obtain ⟨hb8,h8⟩:=z2w h8;rw [hW] at h8;rcases h8 with ⟨_,rfl⟩ | ⟨h60,_⟩
            case inr=>exact absurd h60 HV.out
            go_upto_region 23 with fail
            obtain ⟨w9,e9⟩:∃ x,w8.alloc (.cells #[.int .u64 0,.slice none 0 0,.slice none 0 0] 60)=x:=⟨_,rfl⟩
            have hb9:Below w8.heap.size w8 w9:=by rw [<-e9];exact (Below.refl _ _).alloc (Nat.le_refl _) _
            have h22:Has w9 w8.heap.size #[.int .u64 0,.slice none 0 0,.slice none 0 0] 60:=by rw [<-e9];exact Has.new _ _ _
            rw [e9];have hb79:Below w7.heap.size w7 w9:=hb8.trans (hb9.mono hb8.size);have B59:Aside (Below w5.heap.size w5 w9):=B57.out.1.trans (hb79.mono B57.out.1.size);have H9:Aside (Has w9 b20 #[.int .u64 0,.slice none 0 0,.slice none 0 0] 60/\Has w9 w8.heap.size #[.int .u64 0,.slice none 0 0,.slice none 0 0] 60/\w5.heap.size<=b20/\w5.heap.size<=w8.heap.size):=⟨B57.out.2.1.keep hb79,h22,B57.out.2.2,by have:=B57.out.1.size;have:=hb8.size;omega⟩
            generalize w8.heap.size=b22 at *
            clear e9 hb9 h22 hb79 hb8 B57;have cs:=z5O g1 n q1 ai ci L HA.out.2.1 (by have:=HA.out;omega) S5.out.2.2.2.1 w9 (S5.out.2.2.1.keep B59.out) (HA.out.2.2.2.1.keep (S5.out.2.1.trans (B59.out.mono S5.out.2.1.size))) (Nat.lt_of_lt_of_le S5.out.2.2.2.2.1 B59.out.size) ((B59.out.cell (p:=⟨g1,n,none⟩) S5.out.2.2.2.2.1).trans S5.out.2.2.2.2.2.2.2);go_wp2_with fail
            refine cs.mono ?_;rintro e w10 ⟨rfl,hb10⟩;clear cs;go_upto_region 26 with fail
            obtain ⟨w110,e11⟩:∃ x,w10.alloc (.cells #[.int .u64 0,.slice none 0 0,.slice none 0 0] 60)=x:=⟨_,rfl⟩
            have B5X:Below w5.heap.size w5 w10:=B59.out.trans (hb10.mono B59.out.size)
            have M11:Aside (MTWO w (w10.alloc (.cells #[.int .u64 0,.slice none 0 0,.slice none 0 0] 60)) g1 w5.heap.size b20 b22 w10.heap.size 0 0 0 [] [] none none none none none none 0 0 0 0 0 0):=by
              have hb11:Below w10.heap.size w10 (w10.alloc (.cells #[.int .u64 0,.slice none 0 0,.slice none 0 0] 60)):=(Below.refl _ _).alloc (Nat.le_refl _) _;have hb911:Below w9.heap.size w9 (w10.alloc (.cells #[.int .u64 0,.slice none 0 0,.slice none 0 0] 60)):=hb10.trans (hb11.mono hb10.size);refine ⟨H9.out.1.keep hb911,H9.out.2.1.keep hb911,Has.new _ _ _,⟨rfl,.inl ⟨rfl,rfl⟩⟩,⟨rfl,.inl ⟨rfl,rfl⟩⟩,⟨rfl,.inl ⟨rfl,rfl⟩⟩,⟨rfl,.inl ⟨rfl,rfl⟩⟩,fun h=>by simp at h,⟨rfl,fun h=>by omega,fun x hx=>by cases hx⟩,⟨fun _ x e=>(by cases e),fun x e=>by cases e⟩,zaW fun g e=>by simp [Value.ownBlock] at e,rfl,⟨by omega,by omega⟩,fun x hx=>(by cases hx),⟨S5.out.2.2.2.2.2.1,S5.out.2.2.2.2.1,H9.out.2.2.1,H9.out.2.2.2,B5X.size⟩,?_⟩;exact S5.out.2.1.trans ((B5X.trans (hb11.mono B5X.size)).mono S5.out.2.1.size)
            have OWNG:Aside (∀ W,Below (w10.alloc (.cells #[.int .u64 0,.slice none 0 0,.slice none 0 0] 60)).heap.size (w10.alloc (.cells #[.int .u64 0,.slice none 0 0,.slice none 0 0] 60)) W->W.ownsRow w.heap.size 24 1 (.slice (some ⟨g1,0,none⟩) n q1) n (z06 L)):=fun W hW=>by
              have hb11:Below w10.heap.size w10 (w10.alloc (.cells #[.int .u64 0,.slice none 0 0,.slice none 0 0] 60)):=(Below.refl _ _).alloc (Nat.le_refl _) _;have h5:=B5X.trans (hb11.mono B5X.size);exact z0v S5.out.2.2.2.2.2.2.1 fun k e=>(h5.trans (hW.mono h5.size)).block k (S5.out.2.2.2.2.2.2.1.lt k e).2
            clear e11 H9 B59 B5X S5 hb10;go_upto_region 28 with (refine wpList_store_row rfl 60 (.tmp 24) (.tmp 145) rfl _ _ rfl rfl 60 _ (Has.new w10 _ _) (by kernel_rfl) rfl (by simp [Value.oneCell']) ?_;rw [World.setRow_alloc_new])
            generalize w10.alloc (.cells #[.int .u64 0,.slice none 0 0,.slice none 0 0] 60)=w11 at *
            generalize w10.heap.size=b24 at *
            have cs:=M11.out.same;have x0:=M11.out.ha.cell 0;have x1:=M11.out.ha.cell 1;have x2:=M11.out.ha.cell 2;have z0:=M11.out.hx.cell 0;have z1:=M11.out.hx.cell 1;have z2:=M11.out.hx.cell 2;go_wp2_with fail
            refine cs.mono ?_;rintro e w13 ⟨rfl,hb13⟩;clear cs x0 x1 x2 z0 z1 z2;have M13:=M11.out.below hb13;have M13B:Aside (Below w11.heap.size w11 w13):=hb13;have cs:=M13.same2;have x0:=M13.hb.cell 0;have x1:=M13.hb.cell 1;have x2:=M13.hb.cell 2;have z0:=M13.hx.cell 0;have z1:=M13.hx.cell 1;have z2:=M13.hx.cell 2;have M13:=Aside.mk M13;clear hb13;go_wp2_with fail
            refine cs.mono ?_;rintro e w12 ⟨rfl,hb12⟩;clear cs x0 x1 x2 z0 z1 z2;have M12:=Aside.mk (M13.out.below hb12);have M12B:Aside (Below w11.heap.size w11 w12):=M13B.out.trans (hb12.mono M13B.out.size);clear hb12 M13 M13B M11;have O12:Aside (w12.ownsRow w.heap.size 24 1 (.slice (some ⟨g1,0,none⟩) n q1) n (z06 L)):=OWNG.out _ M12B.out;clear OWNG;go_wp2_with fail
            go_loopg [25] n (fun q s25 wx=>∃ (j:Nat) (H:List Nat),s25=.int .i64 (j:Int)/\Aside (j+q=n/\H.length=n/\wx.ownsRow w.heap.size 24 1 (.slice (some ⟨g1,0,none⟩) n q1) n (z06 H)/\BUT g1 w12 wx))
            case atStart=>exact ⟨0,L,rfl,by omega,HA.out.2.1,O12.out,BUT.refl _ _⟩
            case round=>
              obtain ⟨j,H,rfl,A⟩:=hrel;cases gk with
              | succ q=>
                have hjn:j<n:=by have:=A.out.1;omega
                have hlt:(j:Int)<(n:Int):=by omega
                obtain ⟨x,ex⟩:∃ x,H[j]?=some x:=⟨_,List.getElem?_eq_getElem (by have:=A.out.2.1;omega)⟩
                have x0:wr.cell? ⟨g1,j,none⟩=some (.int .u64 (x:Int)):=by
                  rw [A.out.2.2.1.cellAt j (by omega),z06,List.getElem?_map,ex];rfl
                have f0:=A.out.2.2.1.frozenAt j;obtain ⟨z,ez⟩:∃ z:Nat,IntKind.u64.wrap ((x:Int)+1)=(z:Int):=⟨(IntKind.u64.wrap ((x:Int)+1)).toNat,by rw [z0b];omega⟩
                have ej:wrap64 ((j:Int)+1)=((j+1:Nat):Int):=by have:=HA.out;clear ez;unfold wrap64;omega
                have Z:Aside (j+1+q=n/\(H.set j z).length=n/\(wr.setCell ⟨g1,j,none⟩ (.int .u64 (z:Int))).ownsRow w.heap.size 24 1 (.slice (some ⟨g1,0,none⟩) n q1) n (z06 (H.set j z))/\BUT g1 w12 (wr.setCell ⟨g1,j,none⟩ (.int .u64 (z:Int)))):=by
                  have hs:=(A.out.2.2.1.stored j (.int .u64 (z:Int)))
                  have e2:(z06 H).set j (.int .u64 (z:Int))=z06 (H.set j z):=by unfold z06;rw [List.map_set]
                  rw [e2] at hs;refine ⟨by have:=A.out.1;clear ej ez;omega,by rw [List.length_set];exact A.out.2.1,hs.1,A.out.2.2.2.trans ⟨fun k hk hne=>hs.2.block k hk fun e=>hne (by simpa [Value.ownBlock] using e),(Below.refl _ _).grown hs.2 (Nat.le_of_lt (A.out.2.2.1.lt g1 rfl).2) (fun k e=>by simp at e;omega)⟩⟩
                clear A ex hjn;go_wp2_with fail
                go_roundg q
                case measure=>exact Nat.lt_succ_self _
                case rel=>exact ⟨j+1,H.set j z,by first | rfl | (rw [ej]),Z.out⟩
              | zero=>
                obtain rfl:j=n:=by have:=A.out.1;omega
                have hlt:¬ (j:Int)<(j:Int):=by omega
                have M13:=M12.out.but A.out.2.2.2;have cs:=M13.same;have x0:=M13.ha.cell 0;have x1:=M13.ha.cell 1;have x2:=M13.ha.cell 2;have z0:=M13.hx.cell 0;have z1:=M13.hx.cell 1;have z2:=M13.hx.cell 2;have M13:=Aside.mk M13;clear A M12 O12;go_wp2_with fail
                refine cs.mono ?_;rintro e w14 ⟨rfl,hb14⟩;clear cs x0 x1 x2 z0 z1 z2;have M14:=M13.out.below hb14;have cs:=M14.parts;have x0:=M14.ha.cell 0;have x1:=M14.ha.cell 1;have x2:=M14.ha.cell 2;have z0:=M14.hb.cell 0;have z1:=M14.hb.cell 1;have z2:=M14.hb.cell 2;clear M14 hb14;go_wp2_with fail
                refine cs.mono ?_;rintro e w15 ⟨rfl,hb15⟩;clear cs x0 x1 x2 z0 z1 z2;have ca:=z4i w15 (tab.out w15 hb15).1 (tab.out w15 hb15).2.2;have FB:Aside (Below w.heap.size w w15):=hb15;clear hb15;go_wp2_with fail
                refine ca.mono ?_;rintro e w16 ⟨rfl,hb16⟩;clear ca;have FN:Aside (Below w.heap.size w w16):=FB.out.trans (hb16.mono FB.out.size);clear hb16 FB;go_wp2_with fail
                go_ret;exact ⟨rfl,FN.out⟩
theorem z6V (d:Int) (al:Option Addr) (nl cl:Nat) (lv:List Int) (ad:Option Addr) (m cd:Nat) (R:List Nat) (ai:Option Addr) (n ci:Nat) (L:List Nat) (N:Nat) (w:World) (hFl:Flat w al nl lv) (hr:R.length=m) (hR:NUML w ad R) (hxr:∀ x∈R,x<2 ^ 64) (hl:L.length=n) (hci:ai=none->ci=0) (hL:NUML w ai L) (hx:∀ x∈L,x<2 ^ 64) (hT:Tabled w) (hX:HX.Tabled w) (h0:2<w.heap.size):
  Calls Tryz.prog 4 #[.int .i64 d,.slice al nl cl,.slice ad m cd,.slice ai n ci,.int .u64 (N:Int)] w fun e w'=>e=.returned (.bool true)/\Below w.heap.size w w':=by
 by_cases h:nl<=200/\m<=200/\n<=200
 ·exact zcd d al nl cl lv ad m cd R ai n ci L N w hFl hr hR hxr hl hci hL hx h.1 h.2.1 h.2.2 hT hX h0
 ·exact zcc d al nl cl ad m cd ai n ci N w h
end Go.Proofs.YthmnailmbgondaaGreatDoor
