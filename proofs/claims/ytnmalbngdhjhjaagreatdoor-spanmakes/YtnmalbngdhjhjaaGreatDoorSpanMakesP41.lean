/- Texts of SpanMakes, one behind the other: SpanMakesWalk. -/
import Derived.Test.YtnmalbngdhjhjaaGreatDoorSpanMakesP40
namespace Go.Proofs.YtnmalbngdhjhjaaGreatDoor
open Go.RowKit
set_option maxRecDepth 100000
def LFM (lv:List Int) (i:Nat):Nat→Nat:=FNC (HSH lv i)
theorem z8V {lv:List Int} {nl i:Nat} (hl:HSS nl lv) (hi:i<nl):IsH (HSH lv i):=⟨z1s hl.1 hi,fun x hx=>hl.2 x (List.mem_of_mem_drop (List.mem_of_mem_take hx))⟩
theorem zbR {d:Int} {lv:List Int} {nl:Nat} (hl:HSS nl lv) {i:Nat} (hi:i<nl):TVAL d (LFM lv) 0 i=HSH lv i:=by
  show LST (FNC (HSH lv i))=HSH lv i
  exact zaq (z8V hl hi)
theorem Aside.mk {p:Prop} (h:p):Aside p:=h
set_option maxHeartbeats 2000000 in
theorem z9R (d:Int) (al:Option Addr) (nl cl:Nat) (ad:Option Addr) (m cd:Nat) (F T N:Int) (w:World) (h:¬ (nl≤200∧m≤200)):
    Calls Tryz.prog 3 #[.int .i64 d,.slice al nl cl,.slice ad m cd,.int .u64 F,.int .u64 T,.int .u64 N] w fun e w'=>e=.returned (.bool true)∧Below w.heap.size w w':=by
  by_cases hn:(200:Int)<(nl:Int)
  · clear h
    go_enter Tryz.func3,Tryz.ntmps3
    go_wp2_with fail
    go_ret
    exact ⟨rfl,Below.refl _ _⟩
  · have hm:(200:Int)<(m:Int):=by omega
    clear h
    go_enter Tryz.func3,Tryz.ntmps3
    go_wp2_with fail
    go_ret
    exact ⟨rfl,Below.refl _ _⟩
set_option maxHeartbeats 16000000 in
theorem z9S (d:Int) (al:Option Addr) (nl cl:Nat) (lv:List Int) (ad:Option Addr) (m cd:Nat) (R:List Nat) (F T N:Nat) (w:World) (hFl:Flat w al nl lv) (hr:R.length=m) (hR:NUML w ad R) (hxr:∀ x∈R,x<2 ^ 64) (hnl:nl≤200) (hm:m≤200) (hT:Tabled w) (hX:HX.Tabled w) (h0:2<w.heap.size):
    Calls Tryz.prog 3 #[.int .i64 d,.slice al nl cl,.slice ad m cd,.int .u64 (F:Int),.int .u64 (T:Int),.int .u64 (N:Int)] w fun e w'=>e=.returned (.bool true)∧Below w.heap.size w w':=by
  have cn:=HX.zbk d 2 (by decide) w
  have i1:¬ (200:Int)<(nl:Int):=by omega
  have i2:¬ (200:Int)<(m:Int):=by omega
  have HD:Aside (R.length=m∧NUML w ad R∧(∀ x∈R,x<2 ^ 64)∧m≤200):=⟨hr,hR,hxr,hm⟩
  have HF:Aside (Flat w al nl lv∧HSS nl lv∧nl≤200):=⟨hFl,⟨hFl.1,hFl.2.2⟩,hnl⟩
  have tab:Aside (∀ W,Below w.heap.size w W→Tabled W∧HX.Tabled W∧0<W.heap.size):=fun W hb=>⟨hT.below (by omega) hb,hX.below hb,by have:=hb.size;omega⟩
  have GB:Aside (1<w.heap.size):=hX.2.2
  clear hFl hnl hm hr hR hxr hT hX h0
  go_enter Tryz.func3,Tryz.ntmps3
  go_wp2_with fail
  refine cn.mono ?_
  rintro e w1 ⟨g,rfl,hg,hH,hb1⟩
  clear cn i1 i2
  have A1:Aside (HX.FOREST w1 w.heap.size g d 2 0 (fun _=>none) (LFM lv)∧Below w.heap.size w w1∧HX.Has w1 g (HX.z65 d 2) 86∧w.heap.size≤g):=⟨HX.FOREST.new hH (by decide) hg (LFM lv),hb1,hH,hg⟩
  have HG:Aside (w.heap.size≤g):=hg
  clear hg hH hb1
  have ct:=z4H g w1
  go_wp2_with fail
  refine ct.mono ?_
  rintro e w1' ⟨rfl,rfl⟩
  clear ct
  have co:=zgR d (TVAL d (LFM lv)) al nl cl lv w1 (HF.out.1.below A1.out.2.1) (by have:=HF.out;omega) (fun i hi=>zbR HF.out.2.1 hi) (fun h k hk=>by rw [zd3,zdl]) (fun h k hk=>zay (fun i hi j=>z69 (z8V HF.out.2.1 hi) j) hk)
  generalize ((HX.WID d:Nat):Int)=D at *
  go_wp2_with fail
  refine co.mono ?_
  rintro e w2 ⟨gt,gs,l,a,c,rfl,hRT,hlen,hnode,hb2⟩
  clear co
  have HN:Aside (l.length=z01 nl∧∀ h k,(k+1)*2 ^ h≤nl→l[PLC h k]?=some ⟨TVAL d (LFM lv) h k,true,0⟩):=⟨hlen,hnode⟩
  obtain ⟨B2,hB2⟩:∃ B2,w1.heap.size=B2:=⟨_,rfl⟩
  have A2:Aside (HX.FOREST w2 w.heap.size g d 2 0 (fun _=>none) (LFM lv)∧SIDES w w2 g (fun _=>none) B2 gt gs D nl l a c):=by
    rw [← hB2]
    exact ⟨A1.out.1.below hb2,zd8 A1.out.2.2.1 A1.out.2.1 hRT hb2⟩
  clear hRT hlen hnode hb2 A1 hB2
  go_wp2_with fail
  go_loopg [16] nl (fun r s16 wx=>∃ (i:Nat) (C:HX.z02),s16=.int .i64 (i:Int)∧Aside (i+r=nl∧HX.FOREST wx w.heap.size g d 2 i C (LFM lv)∧SIDES w wx g C B2 gt gs D nl l a c))
  case atStart=>exact ⟨0,_,rfl,by omega,A2.out⟩
  case round=>
    obtain ⟨i,C,rfl,A⟩:=hrel
    clear A2
    cases gk with
    | succ r=>
      have hin:i<nl:=by have:=A.out.1;omega
      have hlt:(i:Int)<(nl:Int):=by omega
      obtain ⟨lb,lo,rfl,hlb,_⟩:=HF.out.1.2.1 (by omega)
      have hrg:wr.rangeAt lb (lo+i*32) (z00 (HSH lv i)):=(HF.out.1.below A.out.2.2.bel).at hin
      have hI:=z8V HF.out.2.1 hin
      have cA:=HX.zdm A.out.2.1 (LFM lv i) (fun j=>z69 hI j) (by have:=HF.out;omega) (tab.out wr A.out.2.2.bel).2.1 GB.out A.out.2.2.bel.size
      have h32:=hI.1
      rw [show HX.UARR .u8 32 (LFM lv i)=(z00 (HSH lv i)).toArray from (z43 hI).symm] at cA
      have ei:wrap64 ((i:Int)+1)=((i+1:Nat):Int):=by have:=HF.out;unfold wrap64;omega
      have A3:Aside (i+1+r=nl):=by have:=A.out.1;show i+1+r=nl;clear ei;omega
      clear hin hlb hI
      go_wp2_with (refine wpList_load_mid rfl 35 (.tmp 64) rfl lb (lo+i*32) rfl (z00 (HSH lv i)) _ hrg Tryz.underlying35 rfl (z0u h32) ?_)
      refine cA.mono ?_
      rintro e w3 ⟨rfl,C',a1,a2,a3⟩
      have A4:Aside (HX.FOREST w3 w.heap.size g d 2 (i+1) C' (LFM lv)∧SIDES w w3 g C' B2 gt gs D nl l a c):=by
        refine ⟨a1.congr fun k hk=>?_,A.out.2.2.step a2 a3⟩
        unfold HX.z0B
        split
        · rename_i e;rw [e]
        · rfl
      clear cA hrg a1 a2 a3 A
      go_wp2_with fail
      go_roundg r
      case measure=>exact Nat.lt_succ_self _
      case rel=>exact ⟨i+1,C',by first | rfl | (rw [ei]),A3.out,A4.out⟩
    | zero=>
      obtain rfl:i=nl:=by have:=A.out.1;omega
      have hlt:¬ (i:Int)<(i:Int):=by omega
      have A5:Aside (BOTHD w wr g 2 (z01 i) (z01 i) B2 gt gs D i a c l C (z01 i)):=zg5 A.out.2.1 A.out.2.2 HN.out.1 HN.out.2
      have HN2:Aside (z01 i<2 ^ 40):=by show z01 i<2 ^ 40;have:=HF.out;unfold z01;omega
      clear A HN HF GB
      go_wp2_with fail
      clear hlt
      generalize i=nl at *
      go_loopg [17] m (fun r s17 wx=>∃ (i:Nat) (l':List RND) (C:HX.z02) (al':Nat),s17=.int .i64 (i:Int)∧Aside (i+r=m∧BOTHD w wx g 2 (z01 nl) (z01 nl) B2 gt gs D nl a c l' C al'))
      case atStart=>exact ⟨0,l,C,_,rfl,by omega,A5.out⟩
      case round=>
        obtain ⟨i,l',C,al',rfl,A⟩:=hrel
        clear A5
        cases gk with
        | succ r=>
          have hin:i<m:=by have:=A.out.1;omega
          have hlt:(i:Int)<(m:Int):=by omega
          obtain ⟨x,ex⟩:∃ x,R[i]?=some x:=⟨_,List.getElem?_eq_getElem (by have:=HD.out;omega)⟩
          obtain ⟨db,dof,rfl,hdb,hdc⟩:=HD.out.2.1 (by have:=HD.out;omega)
          have x64:=HD.out.2.2.1 x (List.mem_of_getElem? ex)
          have CD:Aside (∀ W,Below w.heap.size w W→W.cell? ⟨db,dof+i,none⟩=some (.int .u64 (x:Int))):=fun W hb=>(hb.cell (p:=⟨db,dof+i,none⟩) hdb).trans (hdc i x ex)
          have ei:wrap64 ((i:Int)+1)=((i+1:Nat):Int):=by have:=HD.out;unfold wrap64;omega
          have A3:Aside (i+1+r=m):=by have:=A.out.1;show i+1+r=m;clear ei;omega
          have B0:BOTHD w wr.drew g 2 (z01 nl) (z01 nl) B2 gt gs D nl a c l' C al':=A.out.2.below (Below.refl _ _).drew
          clear hin hdb hdc ex A
          go_upto_region 14 with fail
          refine zeT wr g gt gs db dof m cd i x (RDRP l' x) hlt (fun W=>BOTHD w W g 2 (z01 nl) (z01 nl) B2 gt gs D nl a c l' C al') (fun W=>zbF w W g 2 (z01 nl) (z01 nl) B2 gt gs D nl a c l' x) (fun W=>∃ l2 C2 al2,BOTHD w W g 2 (z01 nl) (z01 nl) B2 gt gs D nl a c l2 C2 al2) B0 (fun W h=>⟨h.sd.rt.box.cell 2,CD.out W h.sd.bel⟩) (fun W h=>?_) (fun W h=>?_) (fun W h=>(z4H g W).mono fun e W' he=>⟨he.1,he.2 ▸ h⟩) (fun W h=>zbG h x x64 HG.out HN2.out) (fun W h=>z9J x h) (fun _ _ _ _ _ h=>h) ?_
          · obtain ⟨C2,al2,_,k2,_⟩:=h
            exact ⟨k2.rt.box.cell 2,CD.out W k2.bel⟩
          · obtain ⟨l2,C2,al2,k2⟩:=h
            exact ⟨k2.sd.rt.box.cell 2,CD.out W k2.sd.bel⟩
          rintro w3 ⟨l2,C2,al2,k2⟩
          have A4:Aside (BOTHD w w3 g 2 (z01 nl) (z01 nl) B2 gt gs D nl a c l2 C2 al2):=k2
          clear B0 k2 CD x64
          dsimp only
          go_wp2_with fail
          go_roundg r
          case measure=>exact Nat.lt_succ_self _
          case rel=>exact ⟨i+1,l2,C2,al2,by first | rfl | (rw [ei]),A3.out,A4.out⟩
        | zero=>
          obtain rfl:i=m:=by have:=A.out.1;omega
          have hlt:¬ (i:Int)<(i:Int):=by omega
          have S0:Aside (BOTHD w wr g 2 (z01 nl) (z01 nl) B2 gt gs D nl a c l' C al'):=A.out.2
          clear A HD HN2 HG
          have hPP:=zgX F T N
          have cp:=z7v F T N wr
          have MK:Aside (∀ W,BOTHD w W g 2 (z01 nl) (z01 nl) B2 gt gs D nl a c l' C al'→Calls Tryz.prog 15 #[.iface 25 (.pointer (some ⟨g,0,none⟩)),.int .u64 (F:Int),.int .u64 (T:Int),.int .u64 (N:Int)] W (z4b W (fun p=>(RGOT l' p).2) (fun p=>(RGOT l' p).1) (SPE F T N) (SPA F T N) F T N)):=fun W hB=>
            z9M F T N g (fun p=>(RGOT l' p).2) (fun p=>(RGOT l' p).1) (fun p=>z8C hB.sd.rt.store.is p) W (SPE F T N) (SPA F T N) (by have:=hPP.1;omega) (hB.noded (SPA F T N) hPP.2) fun W' hW'=>by
              have tb:=tab.out W' (hB.sd.bel.trans (hW'.mono hB.sd.bel.size))
              exact z2w F T N W' tb.1 tb.2.2
          generalize SPE F T N=E at *
          generalize SPA F T N=P at *
          unfold z35 at cp
          obtain ⟨K,hK⟩:∃ K,P.length=K:=⟨_,rfl⟩
          have HP:Aside (P.length=K∧K≤188):=⟨hK,by have:=hPP.1;omega⟩
          rw [hK] at cp
          clear hPP hK
          go_wp2_with fail
          refine cp.mono ?_
          rintro e w3 ⟨ap,kp,rfl,op,hb3⟩
          clear cp
          have S3:BOTHD w w3 g 2 (z01 nl) (z01 nl) B2 gt gs D nl a c l' C al':=S0.out.below hb3
          have B3:Aside (∀ W,Below w3.heap.size w3 W→BOTHD w W g 2 (z01 nl) (z01 nl) B2 gt gs D nl a c l' C al'∧Below w.heap.size w W):=fun W hW=>⟨S3.below hW,S3.sd.bel.trans (hW.mono S3.sd.bel.size)⟩
          go_upto_region 18 with fail
          obtain ⟨w4,e4⟩:∃ x,w3.alloc (.cells #[.int .u64 0,.int .u64 0,.int .u64 0,.slice none 0 0] 43)=x:=⟨_,rfl⟩
          have hb4:Below w3.heap.size w3 w4:=by rw [← e4];exact (Below.refl _ _).alloc (Nat.le_refl _) _
          have h20:Has w4 w3.heap.size #[.int .u64 0,.int .u64 0,.int .u64 0,.slice none 0 0] 43:=by rw [← e4];exact Has.new _ _ _
          rw [e4]
          have H4:Aside (Has w4 w3.heap.size #[.int .u64 0,.int .u64 0,.int .u64 0,.slice none 0 0] 43∧Below w3.heap.size w3 w4∧w4.ownsRow wr.heap.size 24 1 (.slice ap K kp) K (z0k P)):=⟨h20,hb4,z0b op hb4⟩
          generalize w3.heap.size=b20 at *
          clear e4 hb4 h20 op hb3 S3 S0
          by_cases hE0:E=0
          · subst hE0
            have S4:BOTHD w w4 g 2 (z01 nl) (z01 nl) B2 gt gs D nl a c l' C al':=(B3.out w4 H4.out.2.1).1
            have ca:=zgT S4.sd.rt P ap K kp HP.out.1 (zeY H4.out.2.2 HP.out.1) (by have:=HP.out;omega)
            clear S4
            go_wp2_with fail
            refine ca.mono ?_
            rintro e w5 h5
            clear ca
            obtain ⟨hb5,h5⟩:=zg6 h5
            have H20:Aside (Has w5 b20 #[.int .u64 0,.int .u64 0,.int .u64 0,.slice none 0 0] 43∧Below b20 w3 w5∧b20<w5.heap.size):=⟨H4.out.1.keep hb5,H4.out.2.1.trans (hb5.mono (Nat.le_of_lt H4.out.1.lt)),Nat.lt_of_lt_of_le H4.out.1.lt hb5.size⟩
            rcases h5 with ⟨hV,rfl⟩ | ⟨hV,ol,oc,rfl,o4⟩
            · obtain ⟨V,hVe⟩:∃ V,FSTE (fun p=>(RGOT l' p).1) P=V:=⟨_,rfl⟩
              have hW:WNT (fun p=>(RGOT l' p).1) 0 P=V:=by unfold WNT;rw [if_pos rfl];exact hVe
              rw [hVe] at hV
              rw [hVe]
              have HV:Aside (V≠0):=hV
              clear hV hVe hb5 H4
              obtain ⟨SZ,FZ,TZ,M,ol,oc,LL,X0,MV⟩:∃ (SZ FZ TZ M:Nat) (ol:Option Addr) (oc:Nat) (LL:List Int),XBOX w5 b20 SZ FZ TZ M ol oc LL∧Aside (∀ W,BOTHD w W g 2 (z01 nl) (z01 nl) B2 gt gs D nl a c l' C al'→Calls Tryz.prog 15 #[.iface 25 (.pointer (some ⟨g,0,none⟩)),.int .u64 (F:Int),.int .u64 (T:Int),.int .u64 (N:Int)] W (SMV W SZ FZ TZ M LL V)):=
                ⟨0,0,0,0,none,0,[],z8O H20.out.1,fun W hB=>(MK.out W hB).mono fun e w' h=>z7n h hW HV.out⟩
              have X6:Aside (XBOX w5 b20 SZ FZ TZ M ol oc LL∧Below b20 w3 w5∧b20<w5.heap.size):=⟨X0,H20.out.2⟩
              have hz0:(V == 0)=false:=beq_eq_false_iff_ne.2 HV.out
              clear H20 MK hW HV X0
              have ck:=MV.out w5 (B3.out w5 X6.out.2.1).1
              go_wp2_with fail
              refine ck.mono ?_
              rintro e w7 ⟨hb7,a1,c1,rfl,o1⟩
              clear ck
              go_upto_region 24 with fail
              obtain ⟨w8,e8⟩:∃ x,w7.alloc (.cells #[.int .u64 (SZ:Int),.int .u64 (FZ:Int),.int .u64 (TZ:Int),.slice a1 M c1] 43)=x:=⟨_,rfl⟩
              have hb8:Below w7.heap.size w7 w8:=by rw [← e8];exact (Below.refl _ _).alloc (Nat.le_refl _) _
              have h22:Has w8 w7.heap.size #[.int .u64 (SZ:Int),.int .u64 (FZ:Int),.int .u64 (TZ:Int),.slice a1 M c1] 43:=by rw [← e8];exact Has.new _ _ _
              rw [e8]
              have hb68:Below w5.heap.size w5 w8:=hb7.trans (hb8.mono hb7.size)
              have W8:Aside (Below w5.heap.size w5 w8∧Has w8 w7.heap.size #[.int .u64 (SZ:Int),.int .u64 (FZ:Int),.int .u64 (TZ:Int),.slice a1 M c1] 43∧w8.ownsRow w5.heap.size 35 32 (.slice a1 M c1) M (z00 LL)∧w5.heap.size≤w7.heap.size∧∀ x,(Value.slice a1 M c1).ownBlock=some x→x<w7.heap.size):=⟨hb68,h22,z0b o1 hb8,hb7.size,fun x e=>(o1.lt x e).2⟩
              have ck:=MV.out w8 (B3.out w8 (X6.out.2.1.trans (hb68.mono (Nat.le_of_lt X6.out.2.2)))).1
              generalize w7.heap.size=b22 at *
              clear e8 hb8 h22 hb68 hb7 o1
              go_wp2_with fail
              refine ck.mono ?_
              rintro e w9 ⟨hb9,a2,c2,rfl,o2⟩
              clear ck
              go_upto_region 25 with fail
              obtain ⟨w10,e10⟩:∃ x,w9.alloc (.cells #[.int .u64 (SZ:Int),.int .u64 (FZ:Int),.int .u64 (TZ:Int),.slice a2 M c2] 43)=x:=⟨_,rfl⟩
              have hb10:Below w9.heap.size w9 w10:=by rw [← e10];exact (Below.refl _ _).alloc (Nat.le_refl _) _
              have h24:Has w10 w9.heap.size #[.int .u64 (SZ:Int),.int .u64 (FZ:Int),.int .u64 (TZ:Int),.slice a2 M c2] 43:=by rw [← e10];exact Has.new _ _ _
              rw [e10]
              have hb810:Below w8.heap.size w8 w10:=hb9.trans (hb10.mono hb9.size)
              have WA:Aside (Below w8.heap.size w8 w10∧Has w10 w9.heap.size #[.int .u64 (SZ:Int),.int .u64 (FZ:Int),.int .u64 (TZ:Int),.slice a2 M c2] 43∧w10.ownsRow w8.heap.size 35 32 (.slice a2 M c2) M (z00 LL)∧w8.heap.size≤w9.heap.size∧∀ x,(Value.slice a2 M c2).ownBlock=some x→x<w9.heap.size):=⟨hb810,h24,z0b o2 hb10,hb9.size,fun x e=>(o2.lt x e).2⟩
              generalize w9.heap.size=b24 at *
              clear e10 hb10 h24 hb810 hb9 o2
              have BX:Aside (∀ W,Below w10.heap.size w10 W→Below w5.heap.size w5 W∧Below w8.heap.size w8 W):=fun W hb=>by
                have h1:Below w8.heap.size w8 W:=WA.out.1.trans (hb.mono WA.out.1.size)
                exact ⟨W8.out.1.trans (h1.mono W8.out.1.size),h1⟩
              have QC:Aside (∀ W,Below w10.heap.size w10 W→(W.cell? ⟨b20,0,none⟩=some (.int .u64 (SZ:Int))∧W.cell? ⟨b20,1,none⟩=some (.int .u64 (FZ:Int))∧W.cell? ⟨b20,2,none⟩=some (.int .u64 (TZ:Int))∧W.cell? ⟨b20,3,none⟩=some (.slice ol M oc))∧(W.cell? ⟨b22,0,none⟩=some (.int .u64 (SZ:Int))∧W.cell? ⟨b22,1,none⟩=some (.int .u64 (FZ:Int))∧W.cell? ⟨b22,2,none⟩=some (.int .u64 (TZ:Int))∧W.cell? ⟨b22,3,none⟩=some (.slice a1 M c1))∧(W.cell? ⟨b24,0,none⟩=some (.int .u64 (SZ:Int))∧W.cell? ⟨b24,1,none⟩=some (.int .u64 (FZ:Int))∧W.cell? ⟨b24,2,none⟩=some (.int .u64 (TZ:Int))∧W.cell? ⟨b24,3,none⟩=some (.slice a2 M c2))):=fun W hb=>by
                have hq:=X6.out.1.has.keep (BX.out W hb).1
                have hr:=W8.out.2.1.keep (BX.out W hb).2
                have hs:=WA.out.2.1.keep hb
                exact ⟨⟨hq.cell 0,hq.cell 1,hq.cell 2,hq.cell 3⟩,⟨hr.cell 0,hr.cell 1,hr.cell 2,hr.cell 3⟩,⟨hs.cell 0,hs.cell 1,hs.cell 2,hs.cell 3⟩⟩
              obtain ⟨⟨p0,p1,p2,p3⟩,⟨p4,p5,p6,p7⟩,_⟩:=QC.out w10 (Below.refl _ _)
              have cs1:=z21 SZ FZ TZ a1 ol M M c1 oc LL w10 (z1Q (z0b W8.out.2.2.1 WA.out.1) X6.out.1.byte) (X6.out.1.flat.below (BX.out w10 (Below.refl _ _)).1) (by have:=X6.out.1.few;omega)
              have hvv:(V != V)=false:=by simp
              go_wp2_with fail
              refine cs1.mono ?_
              rintro e w11 ⟨rfl,hb11⟩
              have B11:Aside (Below w10.heap.size w10 w11):=hb11
              clear cs1 hb11 p0 p1 p2 p3 p4 p5 p6 p7
              obtain ⟨⟨p0,p1,p2,p3⟩,_,⟨p4,p5,p6,p7⟩⟩:=QC.out w11 B11.out
              have cs2:=z21 SZ FZ TZ a2 ol M M c2 oc LL w11 (z1Q (z0b WA.out.2.2.1 B11.out) X6.out.1.byte) (X6.out.1.flat.below (BX.out w11 B11.out).1) (by have:=X6.out.1.few;omega)
              go_wp2_with fail
              refine cs2.mono ?_
              rintro e w12 ⟨rfl,hb12⟩
              have B12:Aside (Below w10.heap.size w10 w12):=B11.out.trans (hb12.mono B11.out.size)
              clear cs2 hb12 B11 p0 p1 p2 p3 p4 p5 p6 p7
              have PW:Aside (w5.heap.size≤w12.heap.size∧Has w12 b22 #[.int .u64 (SZ:Int),.int .u64 (FZ:Int),.int .u64 (TZ:Int),.slice a1 M c1] 43∧Has w12 b24 #[.int .u64 (SZ:Int),.int .u64 (FZ:Int),.int .u64 (TZ:Int),.slice a2 M c2] 43∧w12.ownsRow w5.heap.size 35 32 (.slice a1 M c1) M (z00 LL)∧w12.ownsRow w5.heap.size 35 32 (.slice a2 M c2) M (z00 LL)∧(∀ g,(Value.slice a1 M c1).ownBlock=some g→(Value.slice a2 M c2).ownBlock≠some g)∧(∀ g,(Value.slice a1 M c1).ownBlock=some g→g≠b22∧g≠b24)∧(∀ g,(Value.slice a2 M c2).ownBlock=some g→g≠b22∧g≠b24)∧M≤188∧w.heap.size≤w5.heap.size∧Below w.heap.size w w12):=by
                have q1:=W8.out.1.size
                have q2:=WA.out.1.size
                have q3:=B12.out.size
                have q4:=W8.out.2.1.lt
                have q5:=WA.out.2.2.2.1
                have hw:=(B3.out w5 X6.out.2.1).2
                refine ⟨by omega,W8.out.2.1.keep (BX.out w12 B12.out).2,WA.out.2.1.keep B12.out,z0b (z0b W8.out.2.2.1 WA.out.1) B12.out,z0s (z0b WA.out.2.2.1 B12.out) q1,fun g e1 e2=>?_,fun g e=>?_,fun g e=>?_,X6.out.1.few,hw.size,hw.trans ((BX.out w12 B12.out).1.mono hw.size)⟩
                · have:=W8.out.2.2.2.2 g e1
                  have:=(WA.out.2.2.1.lt g e2).1
                  omega
                · have:=W8.out.2.2.2.2 g e
                  omega
                · have:=(WA.out.2.2.1.lt g e).1
                  have:=WA.out.2.2.2.2 g e
                  omega
              go_upto_region 27 with fail
              clear X6 W8 WA BX QC B12 MV B3 hvv
              refine z5D w12 b22 b24 M c1 c2 a1 a2 (fun W=>W=w12.drew) (fun g1 q1 W=>W.ownsRow w5.heap.size 35 32 (.slice (some ⟨g1,0,none⟩) (M+1+1) q1) (M+1+1) (z00 (MKS 201 (M+1+1)))∧w12.drew.grownBy W (Value.slice a1 M c1).ownBlock∧((Value.slice a1 M c1).ownBlock=some g1∨w12.heap.size≤g1))
                (fun g1 q1 g2 q2 W=>∃ VV,(VV.ownsRow w5.heap.size 35 32 (.slice (some ⟨g1,0,none⟩) (M+1+1) q1) (M+1+1) (z00 (MKS 201 (M+1+1)))∧w12.drew.grownBy VV (Value.slice a1 M c1).ownBlock∧((Value.slice a1 M c1).ownBlock=some g1∨w12.heap.size≤g1))∧W.ownsRow w5.heap.size 35 32 (.slice (some ⟨g2,0,none⟩) (M+1+1) q2) (M+1+1) (z00 (MKS 202 (M+1+1)))∧VV.grownBy W (Value.slice a2 M c2).ownBlock∧((Value.slice a2 M c2).ownBlock=some g2∨VV.heap.size≤g2)) rfl ?_ ?_ ?_ ?_ ?_ (fun _ _ _ _ _ h=>h) ?_
              case refine_1=>
                rintro W rfl
                exact ⟨PW.out.2.1.cell 3,PW.out.2.2.1.cell 3⟩
              case refine_2=>
                rintro g q W ⟨_,hg,_⟩
                have h1:=PW.out.2.1
                have h2:=PW.out.2.2.1
                exact ⟨(World.cell?_of_block (w:=w12) (by exact hg.block b22 h1.lt (fun e=>(PW.out.2.2.2.2.2.2.1 _ e.symm).1 rfl))).trans (h1.cell 3),(World.cell?_of_block (w:=w12) (by exact hg.block b24 h2.lt (fun e=>(PW.out.2.2.2.2.2.2.1 _ e.symm).2 rfl))).trans (h2.cell 3)⟩
              case refine_3=>
                rintro g q g2 q2 W ⟨VV,⟨_,hg,_⟩,_,hg2,_⟩
                have h1:=PW.out.2.1
                have h2:=PW.out.2.2.1
                have sV:w12.heap.size≤VV.heap.size:=hg.size
                exact ⟨(World.cell?_of_block (w:=w12) (by exact (hg2.block b22 (Nat.lt_of_lt_of_le h1.lt sV) (fun e=>(PW.out.2.2.2.2.2.2.2.1 _ e.symm).1 rfl)).trans (hg.block b22 h1.lt (fun e=>(PW.out.2.2.2.2.2.2.1 _ e.symm).1 rfl)))).trans (h1.cell 3),(World.cell?_of_block (w:=w12) (by exact (hg2.block b24 (Nat.lt_of_lt_of_le h2.lt sV) (fun e=>(PW.out.2.2.2.2.2.2.2.1 _ e.symm).2 rfl)).trans (hg.block b24 h2.lt (fun e=>(PW.out.2.2.2.2.2.2.1 _ e.symm).2 rfl)))).trans (h2.cell 3)⟩
              case refine_4=>
                rintro W rfl
                refine (z1Z w5.heap.size (.slice a1 M c1) M (z00 LL) 201 (by have:=PW.out.2.2.2.2.2.2.2.2.1;omega) w12.drew PW.out.1 (z0b PW.out.2.2.2.1 (Below.refl _ _).drew)).mono ?_
                rintro e W ⟨g,q,rfl,h1,h2,h3⟩
                exact ⟨g,q,rfl,h1,h2,h3⟩
              case refine_5=>
                rintro g1 q1 VV ⟨v1,v2,v3⟩
                have sV:w12.heap.size≤VV.heap.size:=v2.size
                have oz:VV.ownsRow w5.heap.size 35 32 (.slice a2 M c2) M (z00 LL):=z20 (z0b PW.out.2.2.2.2.1 (Below.refl _ _).drew) v2 PW.out.2.2.2.2.2.1
                refine (z1Z w5.heap.size (.slice a2 M c2) M (z00 LL) 202 (by have:=PW.out.2.2.2.2.2.2.2.2.1;omega) VV (Nat.le_trans PW.out.1 sV) oz).mono ?_
                rintro e W ⟨g,q,rfl,h1,h2,h3⟩
                exact ⟨g,q,rfl,VV,⟨v1,v2,v3⟩,h1,h2,h3⟩
              rintro g1 q1 g2 q2 w33 ⟨VV,⟨v1,v2,v3⟩,u1,u2,u3⟩
              have sV:w12.heap.size≤VV.heap.size:=v2.size
              have FF:Aside (w33.ownsRow w5.heap.size 35 32 (.slice (some ⟨g1,0,none⟩) (M+1+1) q1) (M+1+1) (z00 (MKS 201 (M+1+1)))∧w33.ownsRow w5.heap.size 35 32 (.slice (some ⟨g2,0,none⟩) (M+1+1) q2) (M+1+1) (z00 (MKS 202 (M+1+1)))∧Below w.heap.size w w33):=by
                have oz30:=PW.out.2.2.2.2.1
                have or30:=PW.out.2.2.2.1
                have PB:=PW.out.2.2.2.2.2.2.2.2.2
                refine ⟨z20 v1 u2 (fun g e e2=>?_),u1,?_⟩
                · have e2:g1=g:=by simpa [Value.ownBlock] using e2
                  subst e2
                  rcases v3 with h | h
                  · exact PW.out.2.2.2.2.2.1 _ h e
                  · have:=(oz30.lt _ e).2
                    omega
                · have b1:Below w.heap.size w w12.drew:=PB.2.drew
                  have b2:Below w.heap.size w VV:=b1.grown v2 b1.size (fun k e=>by have:=(or30.lt k e).1;have:=PB.1;omega)
                  exact b2.grown u2 b2.size (fun k e=>by have:=(oz30.lt k e).1;have:=PB.1;omega)
              have ca1:=z2k w5.heap.size g1 (M+1+1) q1 201 (by have:=PW.out.2.2.2.2.2.2.2.2.1;omega) w33 FF.out.1
              have ca2:=z2k w5.heap.size g2 (M+1+1) q2 202 (by have:=PW.out.2.2.2.2.2.2.2.2.1;omega) w33 FF.out.2.1
              have caw:=z4c w33 (tab.out w33 FF.out.2.2).1 (tab.out w33 FF.out.2.2).2.2
              clear v1 v2 v3 u1 u2 u3 sV PW
              go_wp2_with fail
              refine ca1.mono ?_
              rintro e w34 ⟨rfl,rfl⟩
              clear ca1
              go_wp2_with fail
              refine ca2.mono ?_
              rintro e w34 ⟨rfl,rfl⟩
              clear ca2
              go_wp2_with fail
              refine caw.mono ?_
              rintro e w35 ⟨rfl,hb35⟩
              have W35:Aside (Below w.heap.size w w35):=FF.out.2.2.trans (hb35.mono FF.out.2.2.size)
              clear caw hb35 FF
              go_wp2_with fail
              go_ret
              exact ⟨rfl,W35.out⟩
            · have hW:WNT (fun p=>(RGOT l' p).1) 0 P=0:=by unfold WNT;rw [if_pos rfl];exact hV
              rw [HP.out.1] at o4
              rw [HP.out.1]
              have S5:BOTHD w w5 g 2 (z01 nl) (z01 nl) B2 gt gs D nl a c l' C al':=(B3.out w5 H20.out.2.1).1
              obtain ⟨w6,e6⟩:∃ x,w5.setRow b20 #[.int .u64 (N:Int),.int .u64 (F:Int),.int .u64 (T:Int),.slice ol K oc]=x:=⟨_,rfl⟩
              have h6b:Below b20 w5 w6:=by rw [← e6];exact z0d (Below.refl _ _) (Nat.le_refl _) _
              have h6h:Has w6 b20 #[.int .u64 (N:Int),.int .u64 (F:Int),.int .u64 (T:Int),.slice ol K oc] 43:=by rw [← e6];exact H20.out.1.row _
              have hl20:=H4.out.1.lt
              have h6f:Flat w6 ol K (GCAT (fun p=>(RGOT l' p).2) P):=by
                refine z1Q (B:=w4.heap.size) (c:=oc) (z1R o4 fun k e=>?_) (z7g S5.byte P)
                rw [← e6]
                exact setRow_other w5 b20 k _ (by have:=(o4.lt k e).1;omega)
              have X6:Aside (XBOX w6 b20 N F T K ol oc (GCAT (fun p=>(RGOT l' p).2) P)∧Below b20 w3 w6∧b20<w6.heap.size):=⟨⟨h6h,h6f,HP.out.2,z7g S5.byte P⟩,H20.out.2.1.trans h6b,Nat.lt_of_lt_of_le H20.out.2.2 h6b.size⟩
              have MV:Aside (∀ W,BOTHD w W g 2 (z01 nl) (z01 nl) B2 gt gs D nl a c l' C al'→Calls Tryz.prog 15 #[.iface 25 (.pointer (some ⟨g,0,none⟩)),.int .u64 (F:Int),.int .u64 (T:Int),.int .u64 (N:Int)] W (SMV W N F T K (GCAT (fun p=>(RGOT l' p).2) P) 0)):=fun W hB=>(MK.out W hB).mono fun e w' h=>zbM h hW HP.out.1
              have hres:=H20.out.1
              clear hV hb5 H4 o4 h6b h6h h6f hl20 S5 MK hW H20
              generalize GCAT (fun p=>(RGOT l' p).2) P=LL at X6 MV
              go_upto_region 23 with (refine wpList_store_row rfl 43 (.tmp 20) (.tmp 112) rfl _ _ rfl rfl 43 _ hres (by kernel_rfl) rfl (by simp [Value.oneCell']) ?_)
              rw [e6]
              clear e6 hres
              have ck:=MV.out w6 (B3.out w6 X6.out.2.1).1
              go_wp2_with fail
              refine ck.mono ?_
              rintro e w7 ⟨hb7,a1,c1,rfl,o1⟩
              clear ck
              go_upto_region 24 with fail
              obtain ⟨w8,e8⟩:∃ x,w7.alloc (.cells #[.int .u64 (N:Int),.int .u64 (F:Int),.int .u64 (T:Int),.slice a1 K c1] 43)=x:=⟨_,rfl⟩
              have hb8:Below w7.heap.size w7 w8:=by rw [← e8];exact (Below.refl _ _).alloc (Nat.le_refl _) _
              have h22:Has w8 w7.heap.size #[.int .u64 (N:Int),.int .u64 (F:Int),.int .u64 (T:Int),.slice a1 K c1] 43:=by rw [← e8];exact Has.new _ _ _
              rw [e8]
              have hb68:Below w6.heap.size w6 w8:=hb7.trans (hb8.mono hb7.size)
              have W8:Aside (Below w6.heap.size w6 w8∧Has w8 w7.heap.size #[.int .u64 (N:Int),.int .u64 (F:Int),.int .u64 (T:Int),.slice a1 K c1] 43∧w8.ownsRow w6.heap.size 35 32 (.slice a1 K c1) K (z00 LL)∧w6.heap.size≤w7.heap.size∧∀ x,(Value.slice a1 K c1).ownBlock=some x→x<w7.heap.size):=⟨hb68,h22,z0b o1 hb8,hb7.size,fun x e=>(o1.lt x e).2⟩
              have ck:=MV.out w8 (B3.out w8 (X6.out.2.1.trans (hb68.mono (Nat.le_of_lt X6.out.2.2)))).1
              generalize w7.heap.size=b22 at *
              clear e8 hb8 h22 hb68 hb7 o1
              go_wp2_with fail
              refine ck.mono ?_
              rintro e w9 ⟨hb9,a2,c2,rfl,o2⟩
              clear ck
              go_upto_region 25 with fail
              obtain ⟨w10,e10⟩:∃ x,w9.alloc (.cells #[.int .u64 (N:Int),.int .u64 (F:Int),.int .u64 (T:Int),.slice a2 K c2] 43)=x:=⟨_,rfl⟩
              have hb10:Below w9.heap.size w9 w10:=by rw [← e10];exact (Below.refl _ _).alloc (Nat.le_refl _) _
              have h24:Has w10 w9.heap.size #[.int .u64 (N:Int),.int .u64 (F:Int),.int .u64 (T:Int),.slice a2 K c2] 43:=by rw [← e10];exact Has.new _ _ _
              rw [e10]
              have hb810:Below w8.heap.size w8 w10:=hb9.trans (hb10.mono hb9.size)
              have WA:Aside (Below w8.heap.size w8 w10∧Has w10 w9.heap.size #[.int .u64 (N:Int),.int .u64 (F:Int),.int .u64 (T:Int),.slice a2 K c2] 43∧w10.ownsRow w8.heap.size 35 32 (.slice a2 K c2) K (z00 LL)∧w8.heap.size≤w9.heap.size∧∀ x,(Value.slice a2 K c2).ownBlock=some x→x<w9.heap.size):=⟨hb810,h24,z0b o2 hb10,hb9.size,fun x e=>(o2.lt x e).2⟩
              generalize w9.heap.size=b24 at *
              clear e10 hb10 h24 hb810 hb9 o2
              have BX:Aside (∀ W,Below w10.heap.size w10 W→Below w6.heap.size w6 W∧Below w8.heap.size w8 W):=fun W hb=>by
                have h1:Below w8.heap.size w8 W:=WA.out.1.trans (hb.mono WA.out.1.size)
                exact ⟨W8.out.1.trans (h1.mono W8.out.1.size),h1⟩
              have QC:Aside (∀ W,Below w10.heap.size w10 W→(W.cell? ⟨b20,0,none⟩=some (.int .u64 (N:Int))∧W.cell? ⟨b20,1,none⟩=some (.int .u64 (F:Int))∧W.cell? ⟨b20,2,none⟩=some (.int .u64 (T:Int))∧W.cell? ⟨b20,3,none⟩=some (.slice ol K oc))∧(W.cell? ⟨b22,0,none⟩=some (.int .u64 (N:Int))∧W.cell? ⟨b22,1,none⟩=some (.int .u64 (F:Int))∧W.cell? ⟨b22,2,none⟩=some (.int .u64 (T:Int))∧W.cell? ⟨b22,3,none⟩=some (.slice a1 K c1))∧(W.cell? ⟨b24,0,none⟩=some (.int .u64 (N:Int))∧W.cell? ⟨b24,1,none⟩=some (.int .u64 (F:Int))∧W.cell? ⟨b24,2,none⟩=some (.int .u64 (T:Int))∧W.cell? ⟨b24,3,none⟩=some (.slice a2 K c2))):=fun W hb=>by
                have hq:=X6.out.1.has.keep (BX.out W hb).1
                have hr:=W8.out.2.1.keep (BX.out W hb).2
                have hs:=WA.out.2.1.keep hb
                exact ⟨⟨hq.cell 0,hq.cell 1,hq.cell 2,hq.cell 3⟩,⟨hr.cell 0,hr.cell 1,hr.cell 2,hr.cell 3⟩,⟨hs.cell 0,hs.cell 1,hs.cell 2,hs.cell 3⟩⟩
              obtain ⟨⟨p0,p1,p2,p3⟩,⟨p4,p5,p6,p7⟩,_⟩:=QC.out w10 (Below.refl _ _)
              have cs1:=z21 N F T a1 ol K K c1 oc LL w10 (z1Q (z0b W8.out.2.2.1 WA.out.1) X6.out.1.byte) (X6.out.1.flat.below (BX.out w10 (Below.refl _ _)).1) (by have:=X6.out.1.few;omega)
              have hvv:((0:Int) != (0:Int))=false:=by simp
              go_wp2_with fail
              refine cs1.mono ?_
              rintro e w11 ⟨rfl,hb11⟩
              have B11:Aside (Below w10.heap.size w10 w11):=hb11
              clear cs1 hb11 p0 p1 p2 p3 p4 p5 p6 p7
              obtain ⟨⟨p0,p1,p2,p3⟩,_,⟨p4,p5,p6,p7⟩⟩:=QC.out w11 B11.out
              have cs2:=z21 N F T a2 ol K K c2 oc LL w11 (z1Q (z0b WA.out.2.2.1 B11.out) X6.out.1.byte) (X6.out.1.flat.below (BX.out w11 B11.out).1) (by have:=X6.out.1.few;omega)
              go_wp2_with fail
              refine cs2.mono ?_
              rintro e w12 ⟨rfl,hb12⟩
              have B12:Aside (Below w10.heap.size w10 w12):=B11.out.trans (hb12.mono B11.out.size)
              clear cs2 hb12 B11 p0 p1 p2 p3 p4 p5 p6 p7
              have PW:Aside (w6.heap.size≤w12.heap.size∧Has w12 b22 #[.int .u64 (N:Int),.int .u64 (F:Int),.int .u64 (T:Int),.slice a1 K c1] 43∧Has w12 b24 #[.int .u64 (N:Int),.int .u64 (F:Int),.int .u64 (T:Int),.slice a2 K c2] 43∧w12.ownsRow w6.heap.size 35 32 (.slice a1 K c1) K (z00 LL)∧w12.ownsRow w6.heap.size 35 32 (.slice a2 K c2) K (z00 LL)∧(∀ g,(Value.slice a1 K c1).ownBlock=some g→(Value.slice a2 K c2).ownBlock≠some g)∧(∀ g,(Value.slice a1 K c1).ownBlock=some g→g≠b22∧g≠b24)∧(∀ g,(Value.slice a2 K c2).ownBlock=some g→g≠b22∧g≠b24)∧K≤188∧w.heap.size≤w6.heap.size∧Below w.heap.size w w12):=by
                have q1:=W8.out.1.size
                have q2:=WA.out.1.size
                have q3:=B12.out.size
                have q4:=W8.out.2.1.lt
                have q5:=WA.out.2.2.2.1
                have hw:=(B3.out w6 X6.out.2.1).2
                refine ⟨by omega,W8.out.2.1.keep (BX.out w12 B12.out).2,WA.out.2.1.keep B12.out,z0b (z0b W8.out.2.2.1 WA.out.1) B12.out,z0s (z0b WA.out.2.2.1 B12.out) q1,fun g e1 e2=>?_,fun g e=>?_,fun g e=>?_,X6.out.1.few,hw.size,hw.trans ((BX.out w12 B12.out).1.mono hw.size)⟩
                · have:=W8.out.2.2.2.2 g e1
                  have:=(WA.out.2.2.1.lt g e2).1
                  omega
                · have:=W8.out.2.2.2.2 g e
                  omega
                · have:=(WA.out.2.2.1.lt g e).1
                  have:=WA.out.2.2.2.2 g e
                  omega
              go_upto_region 27 with fail
              clear X6 W8 WA BX QC B12 MV B3 hvv
              refine z5D w12 b22 b24 K c1 c2 a1 a2 (fun W=>W=w12.drew) (fun g1 q1 W=>W.ownsRow w6.heap.size 35 32 (.slice (some ⟨g1,0,none⟩) (K+1+1) q1) (K+1+1) (z00 (MKS 201 (K+1+1)))∧w12.drew.grownBy W (Value.slice a1 K c1).ownBlock∧((Value.slice a1 K c1).ownBlock=some g1∨w12.heap.size≤g1))
                (fun g1 q1 g2 q2 W=>∃ VV,(VV.ownsRow w6.heap.size 35 32 (.slice (some ⟨g1,0,none⟩) (K+1+1) q1) (K+1+1) (z00 (MKS 201 (K+1+1)))∧w12.drew.grownBy VV (Value.slice a1 K c1).ownBlock∧((Value.slice a1 K c1).ownBlock=some g1∨w12.heap.size≤g1))∧W.ownsRow w6.heap.size 35 32 (.slice (some ⟨g2,0,none⟩) (K+1+1) q2) (K+1+1) (z00 (MKS 202 (K+1+1)))∧VV.grownBy W (Value.slice a2 K c2).ownBlock∧((Value.slice a2 K c2).ownBlock=some g2∨VV.heap.size≤g2)) rfl ?_ ?_ ?_ ?_ ?_ (fun _ _ _ _ _ h=>h) ?_
              case refine_1=>
                rintro W rfl
                exact ⟨PW.out.2.1.cell 3,PW.out.2.2.1.cell 3⟩
              case refine_2=>
                rintro g q W ⟨_,hg,_⟩
                have h1:=PW.out.2.1
                have h2:=PW.out.2.2.1
                exact ⟨(World.cell?_of_block (w:=w12) (by exact hg.block b22 h1.lt (fun e=>(PW.out.2.2.2.2.2.2.1 _ e.symm).1 rfl))).trans (h1.cell 3),(World.cell?_of_block (w:=w12) (by exact hg.block b24 h2.lt (fun e=>(PW.out.2.2.2.2.2.2.1 _ e.symm).2 rfl))).trans (h2.cell 3)⟩
              case refine_3=>
                rintro g q g2 q2 W ⟨VV,⟨_,hg,_⟩,_,hg2,_⟩
                have h1:=PW.out.2.1
                have h2:=PW.out.2.2.1
                have sV:w12.heap.size≤VV.heap.size:=hg.size
                exact ⟨(World.cell?_of_block (w:=w12) (by exact (hg2.block b22 (Nat.lt_of_lt_of_le h1.lt sV) (fun e=>(PW.out.2.2.2.2.2.2.2.1 _ e.symm).1 rfl)).trans (hg.block b22 h1.lt (fun e=>(PW.out.2.2.2.2.2.2.1 _ e.symm).1 rfl)))).trans (h1.cell 3),(World.cell?_of_block (w:=w12) (by exact (hg2.block b24 (Nat.lt_of_lt_of_le h2.lt sV) (fun e=>(PW.out.2.2.2.2.2.2.2.1 _ e.symm).2 rfl)).trans (hg.block b24 h2.lt (fun e=>(PW.out.2.2.2.2.2.2.1 _ e.symm).2 rfl)))).trans (h2.cell 3)⟩
              case refine_4=>
                rintro W rfl
                refine (z1Z w6.heap.size (.slice a1 K c1) K (z00 LL) 201 (by have:=PW.out.2.2.2.2.2.2.2.2.1;omega) w12.drew PW.out.1 (z0b PW.out.2.2.2.1 (Below.refl _ _).drew)).mono ?_
                rintro e W ⟨g,q,rfl,h1,h2,h3⟩
                exact ⟨g,q,rfl,h1,h2,h3⟩
              case refine_5=>
                rintro g1 q1 VV ⟨v1,v2,v3⟩
                have sV:w12.heap.size≤VV.heap.size:=v2.size
                have oz:VV.ownsRow w6.heap.size 35 32 (.slice a2 K c2) K (z00 LL):=z20 (z0b PW.out.2.2.2.2.1 (Below.refl _ _).drew) v2 PW.out.2.2.2.2.2.1
                refine (z1Z w6.heap.size (.slice a2 K c2) K (z00 LL) 202 (by have:=PW.out.2.2.2.2.2.2.2.2.1;omega) VV (Nat.le_trans PW.out.1 sV) oz).mono ?_
                rintro e W ⟨g,q,rfl,h1,h2,h3⟩
                exact ⟨g,q,rfl,VV,⟨v1,v2,v3⟩,h1,h2,h3⟩
              rintro g1 q1 g2 q2 w33 ⟨VV,⟨v1,v2,v3⟩,u1,u2,u3⟩
              have sV:w12.heap.size≤VV.heap.size:=v2.size
              have FF:Aside (w33.ownsRow w6.heap.size 35 32 (.slice (some ⟨g1,0,none⟩) (K+1+1) q1) (K+1+1) (z00 (MKS 201 (K+1+1)))∧w33.ownsRow w6.heap.size 35 32 (.slice (some ⟨g2,0,none⟩) (K+1+1) q2) (K+1+1) (z00 (MKS 202 (K+1+1)))∧Below w.heap.size w w33):=by
                have oz30:=PW.out.2.2.2.2.1
                have or30:=PW.out.2.2.2.1
                have PB:=PW.out.2.2.2.2.2.2.2.2.2
                refine ⟨z20 v1 u2 (fun g e e2=>?_),u1,?_⟩
                · have e2:g1=g:=by simpa [Value.ownBlock] using e2
                  subst e2
                  rcases v3 with h | h
                  · exact PW.out.2.2.2.2.2.1 _ h e
                  · have:=(oz30.lt _ e).2
                    omega
                · have b1:Below w.heap.size w w12.drew:=PB.2.drew
                  have b2:Below w.heap.size w VV:=b1.grown v2 b1.size (fun k e=>by have:=(or30.lt k e).1;have:=PB.1;omega)
                  exact b2.grown u2 b2.size (fun k e=>by have:=(oz30.lt k e).1;have:=PB.1;omega)
              have ca1:=z2k w6.heap.size g1 (K+1+1) q1 201 (by have:=PW.out.2.2.2.2.2.2.2.2.1;omega) w33 FF.out.1
              have ca2:=z2k w6.heap.size g2 (K+1+1) q2 202 (by have:=PW.out.2.2.2.2.2.2.2.2.1;omega) w33 FF.out.2.1
              have caw:=z4c w33 (tab.out w33 FF.out.2.2).1 (tab.out w33 FF.out.2.2).2.2
              clear v1 v2 v3 u1 u2 u3 sV PW
              go_wp2_with fail
              refine ca1.mono ?_
              rintro e w34 ⟨rfl,rfl⟩
              clear ca1
              go_wp2_with fail
              refine ca2.mono ?_
              rintro e w34 ⟨rfl,rfl⟩
              clear ca2
              go_wp2_with fail
              refine caw.mono ?_
              rintro e w35 ⟨rfl,hb35⟩
              have W35:Aside (Below w.heap.size w w35):=FF.out.2.2.trans (hb35.mono FF.out.2.2.size)
              clear caw hb35 FF
              go_wp2_with fail
              go_ret
              exact ⟨rfl,W35.out⟩
          · have hW:WNT (fun p=>(RGOT l' p).1) E P=E:=if_neg hE0
            have HV:Aside (E≠0):=hE0
            have H20:Aside (Has w4 b20 #[.int .u64 0,.int .u64 0,.int .u64 0,.slice none 0 0] 43∧Below b20 w3 w4∧b20<w4.heap.size):=⟨H4.out.1,H4.out.2.1,H4.out.1.lt⟩
            clear hE0 H4
            obtain ⟨SZ,FZ,TZ,M,ol,oc,LL,X0,MV⟩:∃ (SZ FZ TZ M:Nat) (ol:Option Addr) (oc:Nat) (LL:List Int),XBOX w4 b20 SZ FZ TZ M ol oc LL∧Aside (∀ W,BOTHD w W g 2 (z01 nl) (z01 nl) B2 gt gs D nl a c l' C al'→Calls Tryz.prog 15 #[.iface 25 (.pointer (some ⟨g,0,none⟩)),.int .u64 (F:Int),.int .u64 (T:Int),.int .u64 (N:Int)] W (SMV W SZ FZ TZ M LL E)):=
              ⟨0,0,0,0,none,0,[],z8O H20.out.1,fun W hB=>(MK.out W hB).mono fun e w' h=>z7n h hW HV.out⟩
            have X6:Aside (XBOX w4 b20 SZ FZ TZ M ol oc LL∧Below b20 w3 w4∧b20<w4.heap.size):=⟨X0,H20.out.2⟩
            have hz0:(E == 0)=false:=beq_eq_false_iff_ne.2 HV.out
            clear H20 MK hW HV X0
            have ck:=MV.out w4 (B3.out w4 X6.out.2.1).1
            go_wp2_with fail
            refine ck.mono ?_
            rintro e w7 ⟨hb7,a1,c1,rfl,o1⟩
            clear ck
            go_upto_region 24 with fail
            obtain ⟨w8,e8⟩:∃ x,w7.alloc (.cells #[.int .u64 (SZ:Int),.int .u64 (FZ:Int),.int .u64 (TZ:Int),.slice a1 M c1] 43)=x:=⟨_,rfl⟩
            have hb8:Below w7.heap.size w7 w8:=by rw [← e8];exact (Below.refl _ _).alloc (Nat.le_refl _) _
            have h22:Has w8 w7.heap.size #[.int .u64 (SZ:Int),.int .u64 (FZ:Int),.int .u64 (TZ:Int),.slice a1 M c1] 43:=by rw [← e8];exact Has.new _ _ _
            rw [e8]
            have hb68:Below w4.heap.size w4 w8:=hb7.trans (hb8.mono hb7.size)
            have W8:Aside (Below w4.heap.size w4 w8∧Has w8 w7.heap.size #[.int .u64 (SZ:Int),.int .u64 (FZ:Int),.int .u64 (TZ:Int),.slice a1 M c1] 43∧w8.ownsRow w4.heap.size 35 32 (.slice a1 M c1) M (z00 LL)∧w4.heap.size≤w7.heap.size∧∀ x,(Value.slice a1 M c1).ownBlock=some x→x<w7.heap.size):=⟨hb68,h22,z0b o1 hb8,hb7.size,fun x e=>(o1.lt x e).2⟩
            have ck:=MV.out w8 (B3.out w8 (X6.out.2.1.trans (hb68.mono (Nat.le_of_lt X6.out.2.2)))).1
            generalize w7.heap.size=b22 at *
            clear e8 hb8 h22 hb68 hb7 o1
            go_wp2_with fail
            refine ck.mono ?_
            rintro e w9 ⟨hb9,a2,c2,rfl,o2⟩
            clear ck
            go_upto_region 25 with fail
            obtain ⟨w10,e10⟩:∃ x,w9.alloc (.cells #[.int .u64 (SZ:Int),.int .u64 (FZ:Int),.int .u64 (TZ:Int),.slice a2 M c2] 43)=x:=⟨_,rfl⟩
            have hb10:Below w9.heap.size w9 w10:=by rw [← e10];exact (Below.refl _ _).alloc (Nat.le_refl _) _
            have h24:Has w10 w9.heap.size #[.int .u64 (SZ:Int),.int .u64 (FZ:Int),.int .u64 (TZ:Int),.slice a2 M c2] 43:=by rw [← e10];exact Has.new _ _ _
            rw [e10]
            have hb810:Below w8.heap.size w8 w10:=hb9.trans (hb10.mono hb9.size)
            have WA:Aside (Below w8.heap.size w8 w10∧Has w10 w9.heap.size #[.int .u64 (SZ:Int),.int .u64 (FZ:Int),.int .u64 (TZ:Int),.slice a2 M c2] 43∧w10.ownsRow w8.heap.size 35 32 (.slice a2 M c2) M (z00 LL)∧w8.heap.size≤w9.heap.size∧∀ x,(Value.slice a2 M c2).ownBlock=some x→x<w9.heap.size):=⟨hb810,h24,z0b o2 hb10,hb9.size,fun x e=>(o2.lt x e).2⟩
            generalize w9.heap.size=b24 at *
            clear e10 hb10 h24 hb810 hb9 o2
            have BX:Aside (∀ W,Below w10.heap.size w10 W→Below w4.heap.size w4 W∧Below w8.heap.size w8 W):=fun W hb=>by
              have h1:Below w8.heap.size w8 W:=WA.out.1.trans (hb.mono WA.out.1.size)
              exact ⟨W8.out.1.trans (h1.mono W8.out.1.size),h1⟩
            have QC:Aside (∀ W,Below w10.heap.size w10 W→(W.cell? ⟨b20,0,none⟩=some (.int .u64 (SZ:Int))∧W.cell? ⟨b20,1,none⟩=some (.int .u64 (FZ:Int))∧W.cell? ⟨b20,2,none⟩=some (.int .u64 (TZ:Int))∧W.cell? ⟨b20,3,none⟩=some (.slice ol M oc))∧(W.cell? ⟨b22,0,none⟩=some (.int .u64 (SZ:Int))∧W.cell? ⟨b22,1,none⟩=some (.int .u64 (FZ:Int))∧W.cell? ⟨b22,2,none⟩=some (.int .u64 (TZ:Int))∧W.cell? ⟨b22,3,none⟩=some (.slice a1 M c1))∧(W.cell? ⟨b24,0,none⟩=some (.int .u64 (SZ:Int))∧W.cell? ⟨b24,1,none⟩=some (.int .u64 (FZ:Int))∧W.cell? ⟨b24,2,none⟩=some (.int .u64 (TZ:Int))∧W.cell? ⟨b24,3,none⟩=some (.slice a2 M c2))):=fun W hb=>by
              have hq:=X6.out.1.has.keep (BX.out W hb).1
              have hr:=W8.out.2.1.keep (BX.out W hb).2
              have hs:=WA.out.2.1.keep hb
              exact ⟨⟨hq.cell 0,hq.cell 1,hq.cell 2,hq.cell 3⟩,⟨hr.cell 0,hr.cell 1,hr.cell 2,hr.cell 3⟩,⟨hs.cell 0,hs.cell 1,hs.cell 2,hs.cell 3⟩⟩
            obtain ⟨⟨p0,p1,p2,p3⟩,⟨p4,p5,p6,p7⟩,_⟩:=QC.out w10 (Below.refl _ _)
            have cs1:=z21 SZ FZ TZ a1 ol M M c1 oc LL w10 (z1Q (z0b W8.out.2.2.1 WA.out.1) X6.out.1.byte) (X6.out.1.flat.below (BX.out w10 (Below.refl _ _)).1) (by have:=X6.out.1.few;omega)
            have hvv:(E != E)=false:=by simp
            go_wp2_with fail
            refine cs1.mono ?_
            rintro e w11 ⟨rfl,hb11⟩
            have B11:Aside (Below w10.heap.size w10 w11):=hb11
            clear cs1 hb11 p0 p1 p2 p3 p4 p5 p6 p7
            obtain ⟨⟨p0,p1,p2,p3⟩,_,⟨p4,p5,p6,p7⟩⟩:=QC.out w11 B11.out
            have cs2:=z21 SZ FZ TZ a2 ol M M c2 oc LL w11 (z1Q (z0b WA.out.2.2.1 B11.out) X6.out.1.byte) (X6.out.1.flat.below (BX.out w11 B11.out).1) (by have:=X6.out.1.few;omega)
            go_wp2_with fail
            refine cs2.mono ?_
            rintro e w12 ⟨rfl,hb12⟩
            have B12:Aside (Below w10.heap.size w10 w12):=B11.out.trans (hb12.mono B11.out.size)
            clear cs2 hb12 B11 p0 p1 p2 p3 p4 p5 p6 p7
            have PW:Aside (w4.heap.size≤w12.heap.size∧Has w12 b22 #[.int .u64 (SZ:Int),.int .u64 (FZ:Int),.int .u64 (TZ:Int),.slice a1 M c1] 43∧Has w12 b24 #[.int .u64 (SZ:Int),.int .u64 (FZ:Int),.int .u64 (TZ:Int),.slice a2 M c2] 43∧w12.ownsRow w4.heap.size 35 32 (.slice a1 M c1) M (z00 LL)∧w12.ownsRow w4.heap.size 35 32 (.slice a2 M c2) M (z00 LL)∧(∀ g,(Value.slice a1 M c1).ownBlock=some g→(Value.slice a2 M c2).ownBlock≠some g)∧(∀ g,(Value.slice a1 M c1).ownBlock=some g→g≠b22∧g≠b24)∧(∀ g,(Value.slice a2 M c2).ownBlock=some g→g≠b22∧g≠b24)∧M≤188∧w.heap.size≤w4.heap.size∧Below w.heap.size w w12):=by
              have q1:=W8.out.1.size
              have q2:=WA.out.1.size
              have q3:=B12.out.size
              have q4:=W8.out.2.1.lt
              have q5:=WA.out.2.2.2.1
              have hw:=(B3.out w4 X6.out.2.1).2
              refine ⟨by omega,W8.out.2.1.keep (BX.out w12 B12.out).2,WA.out.2.1.keep B12.out,z0b (z0b W8.out.2.2.1 WA.out.1) B12.out,z0s (z0b WA.out.2.2.1 B12.out) q1,fun g e1 e2=>?_,fun g e=>?_,fun g e=>?_,X6.out.1.few,hw.size,hw.trans ((BX.out w12 B12.out).1.mono hw.size)⟩
              · have:=W8.out.2.2.2.2 g e1
                have:=(WA.out.2.2.1.lt g e2).1
                omega
              · have:=W8.out.2.2.2.2 g e
                omega
              · have:=(WA.out.2.2.1.lt g e).1
                have:=WA.out.2.2.2.2 g e
                omega
            go_upto_region 27 with fail
            clear X6 W8 WA BX QC B12 MV B3 hvv
            refine z5D w12 b22 b24 M c1 c2 a1 a2 (fun W=>W=w12.drew) (fun g1 q1 W=>W.ownsRow w4.heap.size 35 32 (.slice (some ⟨g1,0,none⟩) (M+1+1) q1) (M+1+1) (z00 (MKS 201 (M+1+1)))∧w12.drew.grownBy W (Value.slice a1 M c1).ownBlock∧((Value.slice a1 M c1).ownBlock=some g1∨w12.heap.size≤g1))
              (fun g1 q1 g2 q2 W=>∃ VV,(VV.ownsRow w4.heap.size 35 32 (.slice (some ⟨g1,0,none⟩) (M+1+1) q1) (M+1+1) (z00 (MKS 201 (M+1+1)))∧w12.drew.grownBy VV (Value.slice a1 M c1).ownBlock∧((Value.slice a1 M c1).ownBlock=some g1∨w12.heap.size≤g1))∧W.ownsRow w4.heap.size 35 32 (.slice (some ⟨g2,0,none⟩) (M+1+1) q2) (M+1+1) (z00 (MKS 202 (M+1+1)))∧VV.grownBy W (Value.slice a2 M c2).ownBlock∧((Value.slice a2 M c2).ownBlock=some g2∨VV.heap.size≤g2)) rfl ?_ ?_ ?_ ?_ ?_ (fun _ _ _ _ _ h=>h) ?_
            case refine_1=>
              rintro W rfl
              exact ⟨PW.out.2.1.cell 3,PW.out.2.2.1.cell 3⟩
            case refine_2=>
              rintro g q W ⟨_,hg,_⟩
              have h1:=PW.out.2.1
              have h2:=PW.out.2.2.1
              exact ⟨(World.cell?_of_block (w:=w12) (by exact hg.block b22 h1.lt (fun e=>(PW.out.2.2.2.2.2.2.1 _ e.symm).1 rfl))).trans (h1.cell 3),(World.cell?_of_block (w:=w12) (by exact hg.block b24 h2.lt (fun e=>(PW.out.2.2.2.2.2.2.1 _ e.symm).2 rfl))).trans (h2.cell 3)⟩
            case refine_3=>
              rintro g q g2 q2 W ⟨VV,⟨_,hg,_⟩,_,hg2,_⟩
              have h1:=PW.out.2.1
              have h2:=PW.out.2.2.1
              have sV:w12.heap.size≤VV.heap.size:=hg.size
              exact ⟨(World.cell?_of_block (w:=w12) (by exact (hg2.block b22 (Nat.lt_of_lt_of_le h1.lt sV) (fun e=>(PW.out.2.2.2.2.2.2.2.1 _ e.symm).1 rfl)).trans (hg.block b22 h1.lt (fun e=>(PW.out.2.2.2.2.2.2.1 _ e.symm).1 rfl)))).trans (h1.cell 3),(World.cell?_of_block (w:=w12) (by exact (hg2.block b24 (Nat.lt_of_lt_of_le h2.lt sV) (fun e=>(PW.out.2.2.2.2.2.2.2.1 _ e.symm).2 rfl)).trans (hg.block b24 h2.lt (fun e=>(PW.out.2.2.2.2.2.2.1 _ e.symm).2 rfl)))).trans (h2.cell 3)⟩
            case refine_4=>
              rintro W rfl
              refine (z1Z w4.heap.size (.slice a1 M c1) M (z00 LL) 201 (by have:=PW.out.2.2.2.2.2.2.2.2.1;omega) w12.drew PW.out.1 (z0b PW.out.2.2.2.1 (Below.refl _ _).drew)).mono ?_
              rintro e W ⟨g,q,rfl,h1,h2,h3⟩
              exact ⟨g,q,rfl,h1,h2,h3⟩
            case refine_5=>
              rintro g1 q1 VV ⟨v1,v2,v3⟩
              have sV:w12.heap.size≤VV.heap.size:=v2.size
              have oz:VV.ownsRow w4.heap.size 35 32 (.slice a2 M c2) M (z00 LL):=z20 (z0b PW.out.2.2.2.2.1 (Below.refl _ _).drew) v2 PW.out.2.2.2.2.2.1
              refine (z1Z w4.heap.size (.slice a2 M c2) M (z00 LL) 202 (by have:=PW.out.2.2.2.2.2.2.2.2.1;omega) VV (Nat.le_trans PW.out.1 sV) oz).mono ?_
              rintro e W ⟨g,q,rfl,h1,h2,h3⟩
              exact ⟨g,q,rfl,VV,⟨v1,v2,v3⟩,h1,h2,h3⟩
            rintro g1 q1 g2 q2 w33 ⟨VV,⟨v1,v2,v3⟩,u1,u2,u3⟩
            have sV:w12.heap.size≤VV.heap.size:=v2.size
            have FF:Aside (w33.ownsRow w4.heap.size 35 32 (.slice (some ⟨g1,0,none⟩) (M+1+1) q1) (M+1+1) (z00 (MKS 201 (M+1+1)))∧w33.ownsRow w4.heap.size 35 32 (.slice (some ⟨g2,0,none⟩) (M+1+1) q2) (M+1+1) (z00 (MKS 202 (M+1+1)))∧Below w.heap.size w w33):=by
              have oz30:=PW.out.2.2.2.2.1
              have or30:=PW.out.2.2.2.1
              have PB:=PW.out.2.2.2.2.2.2.2.2.2
              refine ⟨z20 v1 u2 (fun g e e2=>?_),u1,?_⟩
              · have e2:g1=g:=by simpa [Value.ownBlock] using e2
                subst e2
                rcases v3 with h | h
                · exact PW.out.2.2.2.2.2.1 _ h e
                · have:=(oz30.lt _ e).2
                  omega
              · have b1:Below w.heap.size w w12.drew:=PB.2.drew
                have b2:Below w.heap.size w VV:=b1.grown v2 b1.size (fun k e=>by have:=(or30.lt k e).1;have:=PB.1;omega)
                exact b2.grown u2 b2.size (fun k e=>by have:=(oz30.lt k e).1;have:=PB.1;omega)
            have ca1:=z2k w4.heap.size g1 (M+1+1) q1 201 (by have:=PW.out.2.2.2.2.2.2.2.2.1;omega) w33 FF.out.1
            have ca2:=z2k w4.heap.size g2 (M+1+1) q2 202 (by have:=PW.out.2.2.2.2.2.2.2.2.1;omega) w33 FF.out.2.1
            have caw:=z4c w33 (tab.out w33 FF.out.2.2).1 (tab.out w33 FF.out.2.2).2.2
            clear v1 v2 v3 u1 u2 u3 sV PW
            go_wp2_with fail
            refine ca1.mono ?_
            rintro e w34 ⟨rfl,rfl⟩
            clear ca1
            go_wp2_with fail
            refine ca2.mono ?_
            rintro e w34 ⟨rfl,rfl⟩
            clear ca2
            go_wp2_with fail
            refine caw.mono ?_
            rintro e w35 ⟨rfl,hb35⟩
            have W35:Aside (Below w.heap.size w w35):=FF.out.2.2.trans (hb35.mono FF.out.2.2.size)
            clear caw hb35 FF
            go_wp2_with fail
            go_ret
            exact ⟨rfl,W35.out⟩
theorem z6N (d:Int) (al:Option Addr) (nl cl:Nat) (lv:List Int) (ad:Option Addr) (m cd:Nat) (R:List Nat) (F T N:Nat) (w:World) (hFl:Flat w al nl lv) (hr:R.length=m) (hR:NUML w ad R) (hxr:∀ x∈R,x<2 ^ 64) (hT:Tabled w) (hX:HX.Tabled w) (h0:2<w.heap.size):
    Calls Tryz.prog 3 #[.int .i64 d,.slice al nl cl,.slice ad m cd,.int .u64 (F:Int),.int .u64 (T:Int),.int .u64 (N:Int)] w fun e w'=>e=.returned (.bool true)∧Below w.heap.size w w':=by
  by_cases h:nl≤200∧m≤200
  · exact z9S d al nl cl lv ad m cd R F T N w hFl hr hR hxr h.1 h.2 hT hX h0
  · exact z9R d al nl cl ad m cd F T N w h
end Go.Proofs.YtnmalbngdhjhjaaGreatDoor
