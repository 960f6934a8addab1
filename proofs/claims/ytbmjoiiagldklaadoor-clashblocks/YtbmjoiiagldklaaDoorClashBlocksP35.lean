/- Texts of ClashBlocks, one behind the other: ClashBlocksWalk, PosDoor, ProofDoor, HashDoor, VerifyLaid3. -/
import Derived.Test.YtbmjoiiagldklaaDoorRows
import Derived.ProofKit
import Derived.LaidMore
import Derived.OpenShut
import Derived.Stop.Joined
import Derived.Deep.Strs
import Derived.Test.YtbmjoiiagldklaaDoorClashBlocksP5
import Derived.Test.YtbmjoiiagldklaaDoorClashBlocksP11
import Derived.Test.YtbmjoiiagldklaaDoorClashBlocksP12
import Derived.Test.YtbmjoiiagldklaaDoorClashBlocksP26
import Derived.Test.YtbmjoiiagldklaaDoorClashBlocksP27
import Derived.Test.YtbmjoiiagldklaaDoorClashBlocksP28
import Derived.Test.YtbmjoiiagldklaaDoorClashBlocksP33
import Derived.Test.YtbmjoiiagldklaaDoorClashBlocksP34
namespace Go.Proofs.YtbmjoiiagldklaaDoor
open Go.RowKit
set_option maxRecDepth 100000
theorem OWNT.ne {w:World} {base g c b:Nat} {t:List Nat} {C:Array Value} (h:OWNT w base g c t) (hz:Has w b C 32):g≠b:=by
  rintro rfl
  rcases h.1.2 with ⟨e,_⟩ | ⟨g2,cap,cur,e,_,e3,_⟩
  · cases e
  · cases e
    have e4:=e3.symm.trans (show w.heap[_]?=_ from hz)
    simp at e4
theorem TOLD1.set {w:World} {B9 b:Nat} {X:Option (List Nat × List Nat)} {C0 C1:Value} {o1:Bool} {C:Array Value} (h:TOLD1 w B9 X C0 C1 o1) (hz:Has w b C 32) (u v:Value):TOLD1 ((w.setCell ⟨b,0,none⟩ u).setCell ⟨b,1,none⟩ v) B9 X C0 C1 o1:=by
  refine ⟨h.1,fun s t e=>?_⟩
  obtain ⟨e1,gA,cA,gB,cB,q1,q2,r1,r2,r5⟩:=h.2 s t e
  have k:∀ g,g≠b→((w.setCell ⟨b,0,none⟩ u).setCell ⟨b,1,none⟩ v).heap[g]?=w.heap[g]?:=fun g hg=>(Below.heap_setCell _ _ _ g hg).trans (Below.heap_setCell _ _ _ g hg)
  exact ⟨e1,gA,cA,gB,cB,q1,q2,r1.at (k _ (r1.ne hz)),r2.at (k _ (r2.ne hz)),r5⟩
set_option maxHeartbeats 1000000 in
theorem z6t (d:Int) (root:List Int) (n i:Nat) (x y:List Int) (pa qa:Option Addr) (pn pc qn qc:Nat) (hk:9600<pn∨9600<qn) (w:World):Calls Tryd.prog 4 #[.int .i64 d,.agg (z00 root).toArray,.int .u64 (n:Int),.int .u64 (i:Int),.agg (z00 x).toArray,.slice pa pn pc,.agg (z00 y).toArray,.slice qa qn qc] w fun e w'=>e=.returned (.bool true)∧Below w.heap.size w w':=by
  have R:Aside (Below w.heap.size w (((w.alloc (.cells (z00 root).toArray 26)).alloc (.cells (z00 x).toArray 26)).alloc (.cells (z00 y).toArray 26))):=(((Below.refl _ _).alloc (Nat.le_refl _) _).alloc (by simp) _).alloc (by simp;omega) _
  by_cases h:(9600:Int)<(pn:Int)
  · go_enter Tryd.func4,Tryd.ntmps4
    go_wp2
    go_ret
    exact ⟨rfl,R.out⟩
  · have h2:(9600:Int)<(qn:Int):=by omega
    go_enter Tryd.func4,Tryd.ntmps4
    go_wp2
    go_ret
    exact ⟨rfl,R.out⟩
theorem zii {d:Int} {s t:List Nat} (hne:s≠t) (he:HSHT d s=HSHT d t) (h1:s.length≤200) (h2:t.length≤200) (ss:HX.Small8 s) (st:HX.Small8 t):(HX.DESC d s t).isSome=true∧∃ SA SB BA BB:Nat→Nat,HX.ANSN d s t (HX.DESC d s t)=HX.z0m SA SB BA BB∧(∀ i,SA i<256)∧(∀ i,SB i<256)∧(∀ i,BA i<256)∧(∀ i,BB i<256)∧((!((List.range 32).all fun i=>SA i == SB i)) || !((List.range 64).all fun i=>BA i == BB i))=true∧((List.range 32).all fun i=>HX.COMP d SA BA i == HX.COMP d SB BB i)=true:=by
  have hone:HX.z2r d s t=true:=by
    have:=z9B hne he
    rw [HX.z57 d hne] at this
    exact this
  have hds:=HX.zeg (d:=d) (l:=s) (k:=t) (by omega) (by omega)
  rw [decide_eq_false hne,hone] at hds
  refine ⟨hds,?_⟩
  cases hD:HX.DESC d s t with
  | none=>rw [hD] at hds;cases hds
  | some N=>
    obtain ⟨hu,ho⟩:=HX.zax hD
    rw [HX.z8u] at hu
    exact ⟨_,_,_,_,rfl,HX.z1Z d (HX.HFUL s) (HX.NB s - N),HX.z1Z d (HX.HFUL t) (HX.NB t - N),HX.z6M (HX.z50 ss) (HX.NB s - N),HX.z6M (HX.z50 st) (HX.NB t - N),hu,HX.z5b.2 fun i hi=>by rw [ho i hi];simp⟩
set_option maxHeartbeats 16000000 in
theorem z5S (d:Int) (root:List Int) (hroot:IsH root) (n i:Nat) (hn:n<2 ^ 64) (hi:i<2 ^ 64) (x y:List Int) (hx:IsH x) (hy:IsH y) (pa qa:Option Addr) (pn pc qn qc:Nat) (hpn:pn≤9600) (hqn:qn≤9600) (hpz:pa=none→pc=0) (hqz:qa=none→qc=0) (bp bq:List Int) (w:World) (hP:Bytes w pa pn bp) (hQ:Bytes w qa qn bq) (hT:Tabled w) (hX:HX.Tabled w) (h0:2<w.heap.size):
    Calls Tryd.prog 4 #[.int .i64 d,.agg (z00 root).toArray,.int .u64 (n:Int),.int .u64 (i:Int),.agg (z00 x).toArray,.slice pa pn pc,.agg (z00 y).toArray,.slice qa qn qc] w fun e w'=>e=.returned (.bool true)∧Below w.heap.size w w':=by
  have l1:¬ (9600:Int)<(pn:Int):=by omega
  have l2:¬ (9600:Int)<(qn:Int):=by omega
  have lr:=hroot.1
  have lx:=hx.1
  have ly:=hy.1
  have HTB:Aside (∀ W,Below w.heap.size w W→Tabled W∧HX.Tabled W∧2<W.heap.size):=fun W h=>⟨hT.below (by omega) h,hX.below h,by have:=h.size;omega⟩
  have C1:Aside (∀ W,Below w.heap.size w W→(Calls Tryd.prog 13 #[.slice pa pn pc] W (z9g W pn bp))∧Calls Tryd.prog 13 #[.slice qa qn qc] W (z9g W qn bq)):=fun W h=>⟨z8o pa pn pc (by omega) hpz bp W (hP.below h),z8o qa qn qc (by omega) hqz bq W (hQ.below h)⟩
  have CM:Aside (∀ W,Below w.heap.size w W→(∀ gp xc,Bytes W (some ⟨gp,0,none⟩) pn bp→pn+1≤xc→Calls Tryd.prog 12 #[.int .i64 d,.agg (z00 root).toArray,.int .u64 (n:Int),.int .u64 (i:Int),.agg (z00 x).toArray,.slice (some ⟨gp,0,none⟩) pn xc] W fun e w'=>e=.returned (.int .i64 (MEMA d root n i x bp))∧Below W.heap.size W w')∧(∀ gq yc,Bytes W (some ⟨gq,0,none⟩) qn bq→qn+1≤yc→Calls Tryd.prog 12 #[.int .i64 d,.agg (z00 root).toArray,.int .u64 (n:Int),.int .u64 (i:Int),.agg (z00 y).toArray,.slice (some ⟨gq,0,none⟩) qn yc] W fun e w'=>e=.returned (.int .i64 (MEMA d root n i y bq))∧Below W.heap.size W w')):=fun W h=>by
    obtain ⟨g1,g2,g3⟩:=HTB.out W h
    exact ⟨fun gp xc h1 h2=>z3b d root hroot n i hn x hx _ pn xc (by omega) (by omega) bp W h1 g1 g2 g3,fun gq yc h1 h2=>z3b d root hroot n i hn y hy _ qn yc (by omega) (by omega) bq W h1 g1 g2 g3⟩
  have HV:Aside ((¬ (x≠y∧MEMA d root n i x bp=0∧MEMA d root n i y bq=0)→CLMB d root n i x bp y bq=none)∧(x≠y∧MEMA d root n i x bp=0∧MEMA d root n i y bq=0→∃ s u,CLMB d root n i x bp y bq=some (s,u)∧s≠u∧HSHT d s=HSHT d u)):=by
    refine ⟨fun h=>by unfold CLMB;rw [if_neg h],fun h=>?_⟩
    obtain ⟨_,p1,_⟩:=z27 hP.2.2 hn hi h.2.1
    obtain ⟨_,r1,_⟩:=z27 hQ.2.2 hn hi h.2.2
    obtain ⟨t,t',s,u,hm⟩:=z8n hn hi hx hy hP.2.2 hQ.2.2 (z3c hP.2.2 (by rw [p1])) (z3c hQ.2.2 (by rw [r1])) h
    exact ⟨s,u,hm.told,zcv hm.told⟩
  have C5G:Aside (∀ W gp xc gq yc,Below w.heap.size w W→pn+1≤xc→qn+1≤yc→Bytes W (some ⟨gp,0,none⟩) pn bp→Bytes W (some ⟨gq,0,none⟩) qn bq→Calls Tryd.prog 14 #[.int .i64 d,.agg (z00 root).toArray,.int .u64 (n:Int),.int .u64 (i:Int),.agg (z00 x).toArray,.slice (some ⟨gp,0,none⟩) pn xc,.agg (z00 y).toArray,.slice (some ⟨gq,0,none⟩) qn yc] W (CLASHED W (CLMB d root n i x bp y bq))):=fun W gp xc gq yc h1 h2 h3 h4 h5=>by
    obtain ⟨g1,g2,g3⟩:=HTB.out W h1
    exact zas d root hroot n i hn hi x y hx hy _ _ pn xc qn yc (by omega) (by omega) (by omega) (by omega) bp bq W h4 h5 g1 g2 g3 (z3c hP.2.2) (z3c hQ.2.2)
  have CW:Aside (∀ W,Below w.heap.size w W→Calls Tryd.prog 11 #[] W fun e w'=>e=.returned (.bool true)∧Below w.heap.size w w'):=fun W h=>(HX.z8q W (HTB.out W h).2.1).mono fun e w' h2=>⟨h2.1,h.trans (h2.2.mono h.size)⟩
  have HA:Aside (pn≤9600∧qn≤9600∧Bytes w pa pn bp∧Bytes w qa qn bq):=⟨hpn,hqn,hP,hQ⟩
  generalize CLMB d root n i x bp y bq=X at *
  generalize MEMA d root n i x bp=U1 at *
  generalize MEMA d root n i y bq=U2 at *
  obtain ⟨W0,hW0⟩:∃ W0,((w.alloc (.cells (z00 root).toArray 26)).alloc (.cells (z00 x).toArray 26)).alloc (.cells (z00 y).toArray 26)=W0:=⟨_,rfl⟩
  obtain ⟨br,hbr⟩:∃ b,w.heap.size=b:=⟨_,rfl⟩
  have hb0:Below w.heap.size w W0:=by rw [← hW0];exact (((Below.refl _ _).alloc (Nat.le_refl _) _).alloc (by simp) _).alloc (by simp;omega) _
  have kr:Has W0 br (z00 root).toArray 26:=by rw [← hW0,← hbr];exact ((Has.new _ _ _).alloc _).alloc _
  have kx:Has W0 (br+1) (z00 x).toArray 26:=by rw [← hW0,← hbr];exact (Has.at _ _ _ (by simp)).alloc _
  have ky:Has W0 (br+1+1) (z00 y).toArray 26:=by rw [← hW0,← hbr];exact Has.at _ _ _ (by simp)
  obtain ⟨bx,hbx⟩:∃ b,br+1=b:=⟨_,rfl⟩
  rw [hbx] at kx ky
  obtain ⟨by9,hby⟩:∃ b,bx+1=b:=⟨_,rfl⟩
  rw [hby] at ky
  have SR0:Aside (∀ W,Below W0.heap.size W0 W→W.rangeAt br 0 (z00 root)∧W.rangeAt bx 0 (z00 x)∧W.rangeAt by9 0 (z00 y)):=fun W h=>⟨z0v (kr.keep h),z0v (kx.keep h),z0v (ky.keep h)⟩
  have R0:Aside (Below w.heap.size w W0∧Has W0 bx (z00 x).toArray 26∧Has W0 by9 (z00 y).toArray 26):=⟨hb0,kx,ky⟩
  have hw0:∀ W,Below W0.heap.size W0 W→Below w.heap.size w W:=fun W h=>hb0.trans (h.mono hb0.size)
  have HW0:Aside (∀ W,Below W0.heap.size W0 W→Below w.heap.size w W):=hw0
  clear hroot hn hi hx hy hpn hqn hpz hqz hP hQ hT hX h0 hb0 kr kx ky hw0
  go_enter Tryd.func4,Tryd.ntmps4
  go_upto_region 1 with fail
  clear hW0 hbr hbx hby
  go_upto_region 3 with fail
  clear l1 l2
  by_cases hU1:U1=0
  · subst hU1
    refine zec W0 d n i pn pc qn qc br bx by9 pa qa root x y lr lx ly U2 (fun W=>Below W0.heap.size W0 W) (fun gp xc W=>Below W0.heap.size W0 W∧Bytes W (some ⟨gp,0,none⟩) pn bp∧pn+1≤xc) (fun gq yc W=>Below W0.heap.size W0 W∧Bytes W (some ⟨gq,0,none⟩) qn bq∧qn+1≤yc) (Below.refl _ _).drew (fun W h=>SR0.out W h) (fun gp xc W h=>SR0.out W h.1) (fun gp xc W h=>SR0.out W h.1)
      (fun W h=>((C1.out W (HW0.out W h)).1).mono fun e w' ⟨gp,xc,h1,h2,h3,h4,h5,h6⟩=>⟨gp,xc,h1,h.trans (h6.mono h.size),(z0B h2 HA.out.2.2.1.2.2).1,h3⟩)
      (fun gp xc W h=>(((CM.out W (HW0.out W h.1)).1) gp xc h.2.1 h.2.2).mono fun e w' h2=>⟨h2.1,h.1.trans (h2.2.mono h.1.size)⟩)
      (fun W h=>((C1.out W (HW0.out W h)).2).mono fun e w' ⟨gp,xc,h1,h2,h3,h4,h5,h6⟩=>⟨gp,xc,h1,h.trans (h6.mono h.size),(z0B h2 HA.out.2.2.2.2.2).1,h3⟩)
      (fun gp xc W h=>(((CM.out W (HW0.out W h.1)).2) gp xc h.2.1 h.2.2).mono fun e w' h2=>⟨h2.1,h.1.trans (h2.2.mono h.1.size)⟩) (fun _ _ _ _ _ h=>h) ?_
    intro gp xc gq yc w3 hb03
    have hw3:=HW0.out w3 hb03
    have SR:Aside (∀ W,Below w3.heap.size w3 W→W.rangeAt br 0 (z00 root)∧W.rangeAt bx 0 (z00 x)∧W.rangeAt by9 0 (z00 y)):=fun W h=>SR0.out W (hb03.trans (h.mono hb03.size))
    go_upto_region 4 with fail
    refine z9Z w3 d n i pn pc qn qc br bx by9 pa qa root x y lr lx ly w3.heap.size (fun W=>Below w3.heap.size w3 W) (fun gp xc W=>Below w3.heap.size w3 W∧Bytes W (some ⟨gp,0,none⟩) pn bp∧pn+1≤xc) (fun gp xc gq yc W=>Below w3.heap.size w3 W∧(Bytes W (some ⟨gp,0,none⟩) pn bp∧pn+1≤xc)∧Bytes W (some ⟨gq,0,none⟩) qn bq∧qn+1≤yc) (fun a1 n1 q1 a2 n2 q2 o1 W=>Below w3.heap.size w3 W∧∃ B9,TOLD1 W B9 X (.slice a1 n1 q1) (.slice a2 n2 q2) o1) (fun a1 n1 q1 a2 n2 q2 o1 bz W=>Below w3.heap.size w3 W∧(∃ B9,TOLD1 W B9 X (.slice a1 n1 q1) (.slice a2 n2 q2) o1)∧Has W bz #[.slice a1 n1 q1,.slice a2 n2 q2] 32)
      (Below.refl _ _).drew (fun W h=>SR.out W h) (fun gp xc W h=>SR.out W h.1) (fun gp xc gq yc W h=>SR.out W h.1) (fun a1 n1 q1 a2 n2 q2 o1 W h=>SR.out W h.1) (fun a1 n1 q1 a2 n2 q2 o1 bz W h=>SR.out W h.1)
      ⟨fun W h=>h.size,fun gp xc W h=>h.1.size,fun gp xc gq yc W h=>h.1.size,fun a1 n1 q1 a2 n2 q2 o1 W h=>h.1.size⟩
      ⟨fun W o h=>h.alloc h.size o,fun gp xc W o h=>⟨h.1.alloc h.1.size o,h.2.1.below ((Below.refl _ _).alloc (Nat.le_refl _) _),h.2.2⟩,fun gp xc gq yc W o h=>⟨h.1.alloc h.1.size o,⟨h.2.1.1.below ((Below.refl _ _).alloc (Nat.le_refl _) _),h.2.1.2⟩,h.2.2.1.below ((Below.refl _ _).alloc (Nat.le_refl _) _),h.2.2.2⟩,fun a1 n1 q1 a2 n2 q2 o1 W o h=>⟨h.1.alloc h.1.size o,by obtain ⟨B9,h2⟩:=h.2;exact ⟨B9,h2.below ((Below.refl _ _).alloc (Nat.le_refl _) _)⟩⟩⟩
      (fun W h=>((C1.out W (hw3.trans (h.mono hw3.size))).1).mono fun e w' ⟨gp,xc,h1,h2,h3,h4,h5,h6⟩=>⟨gp,xc,h1,⟨h.trans (h6.mono h.size),(z0B h2 HA.out.2.2.1.2.2).1,h3⟩,h6⟩)
      (fun gp xc W h=>((C1.out W (hw3.trans (h.1.mono hw3.size))).2).mono fun e w' ⟨gq,yc,h1,h2,h3,h4,h5,h6⟩=>⟨gq,yc,h1,⟨h.1.trans (h6.mono h.1.size),⟨h.2.1.below h6,h.2.2⟩,(z0B h2 HA.out.2.2.2.2.2).1,h3⟩,h6⟩)
      (fun gp xc gq yc W h=>(C5G.out W gp xc gq yc (hw3.trans (h.1.mono hw3.size)) h.2.1.2 h.2.2.2 h.2.1.1 h.2.2.1).mono fun e w' hcl=>by obtain ⟨a1,n1,q1,a2,n2,q2,o1,h1,h2,h3⟩:=hcl.told;exact ⟨a1,n1,q1,a2,n2,q2,o1,h1,⟨h.1.trans (h3.mono h.1.size),_,h2⟩,h3⟩)
      (fun a1 n1 q1 a2 n2 q2 o1 bz W h hz hN=>⟨(h.1.setCell (p:=⟨bz,0,none⟩) hN _).setCell (p:=⟨bz,1,none⟩) hN _,by obtain ⟨B9,h2⟩:=h.2;exact ⟨B9,h2.set hz _ _⟩,(hz.set 0 _).set 1 _⟩) (fun _ _ _ _ _ h=>h) ?_
    intro gp1 xc1 gq1 yc1 a1 n1 q1 a2 n2 q2 o1 bz W4 hP4
    obtain ⟨hb34,⟨B9,TD⟩,hHz⟩:=hP4
    have hb4:Below w.heap.size w W4:=hw3.trans (hb34.mono hw3.size)
    have kx:=(R0.out.2.1.keep hb03).keep hb34
    have ky:=(R0.out.2.2.keep hb03).keep hb34
    clear C1 CM C5G SR SR0 R0 HW0 HA hb03
    by_cases hU2:U2=0
    · subst hU2
      by_cases hxy:x=y
      · have hXn:X=none:=HV.out.1 (fun h=>h.1 hxy)
        have qx:∀ w,(Op.equalIn 10000 26 (.agg (z00 x).toArray) (.agg (z00 y).toArray)).run Tryd.prog w=.ok true w:=fun w=>by rw [z2c lx ly w,decide_eq_true hxy]
        clear hxy HV HTB hHz hb34
        obtain ⟨_,_,ho1⟩:=TD.1 hXn
        subst ho1
        have ca:=CW.out W4 hb4
        clear CW TD hXn
        go_wp2_with (first
          | (refine z0C (by rfl) 26 (.tmp 12) rfl 32 5 bx rfl 26 (z00 x).toArray (0,0) kx Tryd.underlying26 (z08 lx) ?_)
          | (refine z0C (by rfl) 26 (.tmp 14) rfl 32 5 by9 rfl 26 (z00 y).toArray (0,0) ky Tryd.underlying26 (z08 ly) ?_)
          | fail)
        refine ca.mono ?_
        rintro e w9 ⟨rfl,hb9⟩
        clear ca
        go_wp2
        go_ret
        exact ⟨rfl,hb9⟩
      · obtain ⟨s,u,hXs,hne,hhe⟩:=HV.out.2 ⟨hxy,rfl,rfl⟩
        obtain ⟨ho1,gA,cA,gB,cB,e1,e2,r1,r2,r5⟩:=TD.2 s u hXs
        subst ho1
        cases e1
        cases e2
        have qx:∀ w,(Op.equalIn 10000 26 (.agg (z00 x).toArray) (.agg (z00 y).toArray)).run Tryd.prog w=.ok false w:=fun w=>by rw [z2c lx ly w,decide_eq_false hxy]
        obtain ⟨hds,SA,SB,BA,BB,hans,sa,sb,ba,bb,hu,hc⟩:=zii hne hhe r1.2.2.2 r2.2.2.2 r1.2.1 r2.2.1
        have cd:=HX.zcD d _ _ q1 s _ _ q2 u W4 r1.text (fun h=>by cases h) r1.cap (fun x hx=>by cases hx;exact r1.lt.2) r2.text (fun h=>by cases h) r2.cap (fun x hx=>by cases hx;exact r2.lt.2) (by have:=r1.2.2.2;omega) (by have:=r2.2.2.2;omega) (HTB.out W4 hb4).2.1
        rw [hds,hans] at cd
        have hz:=HX.zbl
        have hbn:=HX.z7b
        have x0:W4.cell? ⟨bz,0,none⟩=some (.slice (some ⟨gA,0,none⟩) s.length q1):=hHz.cell 0
        have x1:W4.cell? ⟨bz,1,none⟩=some (.slice (some ⟨gB,0,none⟩) u.length q2):=hHz.cell 1
        have R4:Aside (Below w.heap.size w W4∧OWNT W4 B9 gA q1 s∧OWNT W4 B9 gB q2 u∧Has W4 bz #[.slice (some ⟨gA,0,none⟩) s.length q1,.slice (some ⟨gB,0,none⟩) u.length q2] 32∧s≠u∧HSHT d s=HSHT d u∧(∀ i,SA i<256)∧(∀ i,SB i<256)∧(∀ i,BA i<256)∧∀ i,BB i<256):=⟨hb4,r1,r2,hHz,hne,hhe,sa,sb,ba,bb⟩
        clear hxy HV hHz hb34 hb4 TD hXs r1 r2 r5 hds hans sa sb ba bb hne hhe
        go_wp2_with (first
          | (refine z0C (by rfl) 26 (.tmp 12) rfl 32 5 bx rfl 26 (z00 x).toArray (0,0) kx Tryd.underlying26 (z08 lx) ?_)
          | (refine z0C (by rfl) 26 (.tmp 14) rfl 32 5 by9 rfl 26 (z00 y).toArray (0,0) ky Tryd.underlying26 (z08 ly) ?_)
          | fail)
        refine cd.mono ?_
        rintro e w5 ⟨rfl,hb5⟩
        clear cd x0 x1
        have hst:=run_storeCells_new (P:=Tryd.prog) w5 44 (HX.UARR .u8 192 fun _=>0) (HX.UARR .u8 192 (HX.z0m SA SB BA BB)) (HX.z29 _) (by rw [HX.z06,HX.z06]) (HX.z0r _ _ _)
        have hsu:=HX.z06 .u8 192 (HX.z0m SA SB BA BB)
        obtain ⟨w6,hw6⟩:∃ w6,w5.alloc (.cells (HX.UARR .u8 192 (HX.z0m SA SB BA BB)) 44)=w6:=⟨_,rfl⟩
        have hb6:Below W4.heap.size W4 w6:=by rw [← hw6];exact hb5.alloc hb5.size _
        have k20:Has w6 w5.heap.size (HX.UARR .u8 192 (HX.z0m SA SB BA BB)) 44:=by rw [← hw6];exact Has.new w5 _ _
        have R6:Aside (Below W4.heap.size W4 w6∧Has w6 w5.heap.size (HX.UARR .u8 192 (HX.z0m SA SB BA BB)) 44):=⟨hb6,k20⟩
        clear hb6 k20 hb5
        go_upto_region 8 with fail
        have hF:Aside (∀ W,Below w6.heap.size w6 W→Below W4.heap.size W4 W∧Below w.heap.size w W):=fun W h=>by
          have h2:=R6.out.1.trans (h.mono R6.out.1.size)
          exact ⟨h2,R4.out.1.trans (h2.mono R4.out.1.size)⟩
        have t0:∀ W,Below w6.heap.size w6 W→Has W w5.heap.size (HX.UARR .u8 192 (HX.z0m SA SB BA BB)) 44∧W.cell? ⟨bz,0,none⟩=some (.slice (some ⟨gA,0,none⟩) s.length q1)∧W.cell? ⟨bz,1,none⟩=some (.slice (some ⟨gB,0,none⟩) u.length q2):=fun W h=>⟨R6.out.2.keep h,(R4.out.2.2.2.1.keep (hF.out W h).1).cell 0,(R4.out.2.2.2.1.keep (hF.out W h).1).cell 1⟩
        have cH:∀ W,Below w6.heap.size w6 W→Calls Tryd.prog 16 #[.int .i64 d,.agg #[.slice (some ⟨gA,0,none⟩) s.length q1,.slice (some ⟨gB,0,none⟩) u.length q2]] W fun e w'=>e=.returned (.bool true)∧Below w6.heap.size w6 w':=fun W h=>by
          have r1:OWNT W B9 gA q1 s:=R4.out.2.1.at ((hF.out W h).1.block _ R4.out.2.1.lt.2)
          have r2:OWNT W B9 gB q2 u:=R4.out.2.2.1.at ((hF.out W h).1.block _ R4.out.2.2.1.lt.2)
          have c:=HX.z5v d _ _ q1 s _ _ q2 u W r1.text r1.cap (fun x hx=>by cases hx;exact r1.lt.2) (by have:=r1.2.2.2;omega) r2.text r2.cap (fun x hx=>by cases hx;exact r2.lt.2) (by have:=r2.2.2.2;omega) (HTB.out W (hF.out W h).2).2.1
          rw [z9B R4.out.2.2.2.2.1 R4.out.2.2.2.2.2.1] at c
          exact c.mono fun e w' h2=>⟨h2.1,h.trans (h2.2.mono h.size)⟩
        have cA:∀ W,Below w6.heap.size w6 W→Calls Tryd.prog 17 #[.int .i64 d,.agg (HX.UARR .u8 32 (SA)),.agg (HX.UARR .u8 64 BA)] W fun e w'=>e=.returned (.agg (HX.UARR .u8 32 (HX.COMP d SA BA)))∧Below w6.heap.size w6 w':=fun W h=>(HX.z2t d SA BA R4.out.2.2.2.2.2.2.1 R4.out.2.2.2.2.2.2.2.2.1 W (HTB.out W (hF.out W h).2).2.1).mono fun e w' h2=>⟨h2.1,h.trans (h2.2.mono h.size)⟩
        have cB:∀ W,Below w6.heap.size w6 W→Calls Tryd.prog 17 #[.int .i64 d,.agg (HX.UARR .u8 32 (SB)),.agg (HX.UARR .u8 64 BB)] W fun e w'=>e=.returned (.agg (HX.UARR .u8 32 (HX.COMP d SB BB)))∧Below w6.heap.size w6 w':=fun W h=>(HX.z2t d SB BB R4.out.2.2.2.2.2.2.2.1 R4.out.2.2.2.2.2.2.2.2.2 W (HTB.out W (hF.out W h).2).2.1).mono fun e w' h2=>⟨h2.1,h.trans (h2.2.mono h.size)⟩
        have cW:∀ W,Below w6.heap.size w6 W→Calls Tryd.prog 11 #[] W fun e w'=>e=.returned (.bool true)∧Below w6.heap.size w6 w':=fun W h=>(HX.z8q W (HTB.out W (hF.out W h).2).2.1).mono fun e w' h2=>⟨h2.1,h.trans (h2.2.mono h.size)⟩
        cases h32:!((List.range 32).all fun i=>SA i == SB i)
        · have h64:(!((List.range 64).all fun i=>BA i == BB i))=true:=by rw [h32] at hu;exact hu
          refine zee w6 d bz w5.heap.size _ _ SA SB BA BB h32 h64 hc (fun W=>Below w6.heap.size w6 W) (Below.refl _ _).drew t0 cH cA cB cW (fun _ _ _ _ _ h=>h) ?_
          intro w7 hb7
          have hFF:=(hF.out w7 hb7).2
          clear t0 cH cA cB cW h32 h64 hu hc hst
          go_wp2
          go_ret
          exact ⟨rfl,hFF⟩
        · refine zed w6 d bz w5.heap.size _ _ SA SB BA BB h32 hc (fun W=>Below w6.heap.size w6 W) (Below.refl _ _).drew t0 cH cA cB cW (fun _ _ _ _ _ h=>h) ?_
          intro w7 hb7
          have hFF:=(hF.out w7 hb7).2
          clear t0 cH cA cB cW h32 hu hc hst
          go_wp2
          go_ret
          exact ⟨rfl,hFF⟩
    · have hXn:X=none:=HV.out.1 (fun h=>hU2 h.2.2)
      have hE:(U2 == 0)=false:=beq_eq_false_iff_ne.2 hU2
      clear HV hU2 kx ky HTB hHz hb34
      obtain ⟨_,_,ho1⟩:=TD.1 hXn
      subst ho1
      have ca:=CW.out W4 hb4
      clear CW TD hXn
      go_wp2_with (fail)
      refine ca.mono ?_
      rintro e w9 ⟨rfl,hb9⟩
      clear ca
      go_wp2
      go_ret
      exact ⟨rfl,hb9⟩
  · have hXn:X=none:=HV.out.1 (fun h=>hU1 h.2.1)
    have hE:(U1 == 0)=false:=beq_eq_false_iff_ne.2 hU1
    refine zeb W0 d n i pn pc qn qc br bx by9 pa qa root x y lr lx U1 hE (fun W=>Below W0.heap.size W0 W) (fun gp xc W=>Below W0.heap.size W0 W∧Bytes W (some ⟨gp,0,none⟩) pn bp∧pn+1≤xc) (Below.refl _ _).drew (fun W h=>SR0.out W h) (fun gp xc W h=>SR0.out W h.1)
      (fun W h=>((C1.out W (HW0.out W h)).1).mono fun e w' ⟨gp,xc,h1,h2,h3,h4,h5,h6⟩=>⟨gp,xc,h1,h.trans (h6.mono h.size),(z0B h2 HA.out.2.2.1.2.2).1,h3⟩)
      (fun gp xc W h=>(((CM.out W (HW0.out W h.1)).1) gp xc h.2.1 h.2.2).mono fun e w' h2=>⟨h2.1,h.1.trans (h2.2.mono h.1.size)⟩) (fun _ _ _ _ _ h=>h) ?_
    intro gp xc w3 hb03
    have hw3:=HW0.out w3 hb03
    have SR:Aside (∀ W,Below w3.heap.size w3 W→W.rangeAt br 0 (z00 root)∧W.rangeAt bx 0 (z00 x)∧W.rangeAt by9 0 (z00 y)):=fun W h=>SR0.out W (hb03.trans (h.mono hb03.size))
    clear hE
    go_upto_region 4 with fail
    refine z9Z w3 d n i pn pc qn qc br bx by9 pa qa root x y lr lx ly w3.heap.size (fun W=>Below w3.heap.size w3 W) (fun gp xc W=>Below w3.heap.size w3 W∧Bytes W (some ⟨gp,0,none⟩) pn bp∧pn+1≤xc) (fun gp xc gq yc W=>Below w3.heap.size w3 W∧(Bytes W (some ⟨gp,0,none⟩) pn bp∧pn+1≤xc)∧Bytes W (some ⟨gq,0,none⟩) qn bq∧qn+1≤yc) (fun a1 n1 q1 a2 n2 q2 o1 W=>Below w3.heap.size w3 W∧∃ B9,TOLD1 W B9 X (.slice a1 n1 q1) (.slice a2 n2 q2) o1) (fun a1 n1 q1 a2 n2 q2 o1 bz W=>Below w3.heap.size w3 W∧(∃ B9,TOLD1 W B9 X (.slice a1 n1 q1) (.slice a2 n2 q2) o1)∧Has W bz #[.slice a1 n1 q1,.slice a2 n2 q2] 32)
      (Below.refl _ _).drew (fun W h=>SR.out W h) (fun gp xc W h=>SR.out W h.1) (fun gp xc gq yc W h=>SR.out W h.1) (fun a1 n1 q1 a2 n2 q2 o1 W h=>SR.out W h.1) (fun a1 n1 q1 a2 n2 q2 o1 bz W h=>SR.out W h.1)
      ⟨fun W h=>h.size,fun gp xc W h=>h.1.size,fun gp xc gq yc W h=>h.1.size,fun a1 n1 q1 a2 n2 q2 o1 W h=>h.1.size⟩
      ⟨fun W o h=>h.alloc h.size o,fun gp xc W o h=>⟨h.1.alloc h.1.size o,h.2.1.below ((Below.refl _ _).alloc (Nat.le_refl _) _),h.2.2⟩,fun gp xc gq yc W o h=>⟨h.1.alloc h.1.size o,⟨h.2.1.1.below ((Below.refl _ _).alloc (Nat.le_refl _) _),h.2.1.2⟩,h.2.2.1.below ((Below.refl _ _).alloc (Nat.le_refl _) _),h.2.2.2⟩,fun a1 n1 q1 a2 n2 q2 o1 W o h=>⟨h.1.alloc h.1.size o,by obtain ⟨B9,h2⟩:=h.2;exact ⟨B9,h2.below ((Below.refl _ _).alloc (Nat.le_refl _) _)⟩⟩⟩
      (fun W h=>((C1.out W (hw3.trans (h.mono hw3.size))).1).mono fun e w' ⟨gp,xc,h1,h2,h3,h4,h5,h6⟩=>⟨gp,xc,h1,⟨h.trans (h6.mono h.size),(z0B h2 HA.out.2.2.1.2.2).1,h3⟩,h6⟩)
      (fun gp xc W h=>((C1.out W (hw3.trans (h.1.mono hw3.size))).2).mono fun e w' ⟨gq,yc,h1,h2,h3,h4,h5,h6⟩=>⟨gq,yc,h1,⟨h.1.trans (h6.mono h.1.size),⟨h.2.1.below h6,h.2.2⟩,(z0B h2 HA.out.2.2.2.2.2).1,h3⟩,h6⟩)
      (fun gp xc gq yc W h=>(C5G.out W gp xc gq yc (hw3.trans (h.1.mono hw3.size)) h.2.1.2 h.2.2.2 h.2.1.1 h.2.2.1).mono fun e w' hcl=>by obtain ⟨a1,n1,q1,a2,n2,q2,o1,h1,h2,h3⟩:=hcl.told;exact ⟨a1,n1,q1,a2,n2,q2,o1,h1,⟨h.1.trans (h3.mono h.1.size),_,h2⟩,h3⟩)
      (fun a1 n1 q1 a2 n2 q2 o1 bz W h hz hN=>⟨(h.1.setCell (p:=⟨bz,0,none⟩) hN _).setCell (p:=⟨bz,1,none⟩) hN _,by obtain ⟨B9,h2⟩:=h.2;exact ⟨B9,h2.set hz _ _⟩,(hz.set 0 _).set 1 _⟩) (fun _ _ _ _ _ h=>h) ?_
    intro gp1 xc1 gq1 yc1 a1 n1 q1 a2 n2 q2 o1 bz W4 hP4
    obtain ⟨hb34,⟨B9,TD⟩,hHz⟩:=hP4
    have hb4:Below w.heap.size w W4:=hw3.trans (hb34.mono hw3.size)
    clear C1 CM C5G SR SR0 R0 HW0 HA hb03 HV hU1 HTB hHz hb34
    obtain ⟨_,_,ho1⟩:=TD.1 hXn
    subst ho1
    have ca:=CW.out W4 hb4
    clear CW TD hXn
    go_wp2_with (fail)
    refine ca.mono ?_
    rintro e w9 ⟨rfl,hb9⟩
    clear ca
    go_wp2
    go_ret
    exact ⟨rfl,hb9⟩
theorem z6u (d:Int) (root:List Int) (hroot:IsH root) (n i:Nat) (hn:n<2 ^ 64) (hi:i<2 ^ 64) (x y:List Int) (hx:IsH x) (hy:IsH y) (pa qa:Option Addr) (pn pc qn qc:Nat) (hpz:pa=none→pc=0) (hqz:qa=none→qc=0) (bp bq:List Int) (w:World) (hP:Bytes w pa pn bp) (hQ:Bytes w qa qn bq) (hT:Tabled w) (hX:HX.Tabled w) (h0:2<w.heap.size):
    Calls Tryd.prog 4 #[.int .i64 d,.agg (z00 root).toArray,.int .u64 (n:Int),.int .u64 (i:Int),.agg (z00 x).toArray,.slice pa pn pc,.agg (z00 y).toArray,.slice qa qn qc] w fun e w'=>e=.returned (.bool true)∧Below w.heap.size w w':=by
  by_cases h:9600<pn∨9600<qn
  · exact z6t d root n i x y pa qa pn pc qn qc h w
  · exact z5S d root hroot n i hn hi x y hx hy pa qa pn pc qn qc (by omega) (by omega) hpz hqz bp bq w hP hQ hT hX h0
end Go.Proofs.YtbmjoiiagldklaaDoor

namespace Go.Proofs.YtbmjoiiagldklaaDoor
open Go.ChangeShapes Go.WideShapes Go.ChangeAt Go.WideMaps Go.WideElems Go.RowKit
set_option maxRecDepth 100000
theorem own:ownKnob Tryd.prog.godebug=none:=by kernel_rfl
theorem z2L:laidOutB Tryd.prog=true:=by kernel_rfl
theorem gTab:Tryd.prog.globalNamed "math/bits.deBruijn64tab"=some 2:=by kernel_rfl
theorem tTab:(Tryd.prog.globals[2]?).map (·.type)=some 42:=by kernel_rfl
theorem zij {H:Type}:(Rows.laid_math_bits_deBruijn64tab:DataW H)=.agg (TAB.map fun n=>.lit (.int .u8 (n:Nat))):=rfl
end Go.Proofs.YtbmjoiiagldklaaDoor

namespace Go.Proofs.YtbmjoiiagldklaaDoor
open Go.ChangeShapes Go.WideShapes Go.ChangeAt Go.WideMaps Go.WideElems Go.RowKit Go.Deep
set_option maxRecDepth 100000
theorem zeh {H:Type} {enc:TypeId × Value→H} {W:World} {fuel:Nat} {cs:List Value} {x:DataW H × List MemPlace} (hf:DataW.trod enc Tryd.prog W 0 (fun _=>true) true fuel 26 cs=some x):∃ h:List Int,h.length=32∧(∀ x∈h,0≤x∧x≤255)∧cs=z00 h:=by
  obtain ⟨xs,m,rfl,_,hl,hn,hel⟩:=DataW.trod_array Tryd.underlying26 hf
  have c5:Tryd.prog.cellsOf 5=1:=by kernel_rfl
  have c32:Tryd.prog.cellsOf 26=32:=by kernel_rfl
  rw [c32] at hl
  have hx:∀ i,i<32→∃ k:Int,cs[i]?=some (.int .u8 k)∧0≤k∧k≤255:=fun i hi=>by
    have h0:=hel i hi
    rw [List.getElem?_eq_getElem (by omega),c5,Nat.mul_one] at h0
    obtain ⟨k,e1,_,e3⟩:=DataW.trod_int Tryd.underlying5 h0
    have hb:=bounds_u8 e3
    refine ⟨k,?_,by omega,by omega⟩
    have:=congrArg (fun l=>l[0]?) e1
    simpa using this
  have F:∃ f:Nat→Int,∀ i,i<32→cs[i]?=some (.int .u8 (f i))∧0≤f i∧f i≤255:=by
    refine ⟨fun i=>if hi:i<32 then (hx i hi).choose else 0,fun i hi=>?_⟩
    simp only [hi,dif_pos]
    exact (hx i hi).choose_spec
  obtain ⟨f,hf1⟩:=F
  refine ⟨(List.range 32).map f,by simp,fun x hx=>?_,?_⟩
  · simp only [List.mem_map,List.mem_range] at hx
    obtain ⟨i,hi,rfl⟩:=hx
    exact (hf1 i hi).2
  · apply List.ext_getElem?
    intro i
    by_cases hi:i<32
    · rw [(hf1 i hi).1,z0Q _ i (by simp;exact hi),List.getD_eq_getElem?_getD,List.getElem?_map,List.getElem?_range hi]
      rfl
    · rw [List.getElem?_eq_none (by omega),List.getElem?_eq_none (by simp [z00];omega)]
theorem z6v {H:Type} {enc:TypeId × Value→H} {W:World} {r:Reach} {b0:Nat} {v:Value} {d:DataW H} {ps:List MemPlace} (hval:Value.okWide Tryd.prog W r b0 26 v) (hd:DataW.Trod enc Tryd.prog W 0 (fun _=>true) true 26 v d ps):∃ h:List Int,h.length=32∧(∀ x∈h,0≤x∧x≤255)∧v=.agg (z00 h).toArray:=by
  simp only [Value.okWide,Tryd.underlying26] at hval
  obtain ⟨cs,rfl,hsz,_⟩:=hval
  obtain ⟨fuel,hf⟩:=hd
  obtain ⟨h,h1,h2,h3⟩:=zeh hf
  refine ⟨h,h1,h2,?_⟩
  congr 1
  apply Array.ext'
  simpa [Value.cells] using h3
theorem z5y {H:Type} {enc:TypeId × Value→H} {W:World} {a:Option Addr} {len cap:Nat} {d:DataW H} {ps:List MemPlace} (hd:DataW.Trod enc Tryd.prog W 0 (fun _=>true) true 30 (.slice a len cap) d ps):
    ∃ l:List Int,Bytes W a len l∧(a=none→cap=0)∧len≤cap:=by
  obtain ⟨fuel,hf⟩:=hd
  rcases open_ints Tryd.underlying30 Tryd.underlying5 (by kernel_rfl) hf with ⟨hcs,_⟩ | ⟨x,l,c,zs,hcs,_,hl,hm,hz,hx,hcell,hwz⟩
  · simp [Value.cells] at hcs
    obtain ⟨rfl,rfl,rfl⟩:=hcs
    exact ⟨[],⟨rfl,fun h=>by omega,by simp⟩,fun _=>rfl,Nat.le_refl _⟩
  · simp [Value.cells] at hcs
    obtain ⟨rfl,rfl,rfl⟩:=hcs
    have hr:IsRow .u8 W (some x) len cap zs:=.inr ⟨_,rfl,hl,hm,by simpa using hz,hcell,hwz⟩
    exact ⟨_,hr.bytes,(fun e=>by cases e),hl⟩
end Go.Proofs.YtbmjoiiagldklaaDoor

namespace Go.Proofs.YtbmjoiiagldklaaDoor.HX
set_option maxRecDepth 100000
open Go.ChangeShapes Go.WideShapes Go.ChangeAt Go.WideMaps Go.WideElems Go.RowKit
theorem own:ownKnob Tryd.prog.godebug=none:=by kernel_rfl
theorem z2L:laidOutB Tryd.prog=true:=by kernel_rfl
theorem gRounds:Tryd.prog.globalNamed "massif/hash.rounds"=some 0:=by kernel_rfl
theorem gBegin:Tryd.prog.globalNamed "massif/hash.begin"=some 1:=by kernel_rfl
theorem tRounds:(Tryd.prog.globals[0]?).map (·.type)=some 80:=by kernel_rfl
theorem tBegin:(Tryd.prog.globals[1]?).map (·.type)=some 78:=by kernel_rfl
theorem zcF {H:Type}:(Rows.laid_massif_hash_rounds:DataW H)=.agg (KLIST.map fun n=>.lit (.int .u32 (n:Nat))):=rfl
theorem zei {H:Type}:(Rows.laid_massif_hash_begin:DataW H)=.agg (BEGIN.map fun n=>.lit (.int .u32 (n:Nat))):=rfl
theorem z5y {H:Type} {enc:TypeId × Value→H} {W:World} {a:Option Addr} {len cap:Nat} {d:DataW H} {ps:List MemPlace} (hd:DataW.Trod enc Tryd.prog W 0 (fun _=>true) true 30 (.slice a len cap) d ps):
    ∃ l:List Nat,Text W a len l∧(a=none→cap=0):=by
  have hr:∃ zs,IsRow .u8 W a len cap zs:=by
    obtain ⟨fuel,hf⟩:=hd
    rcases open_ints Tryd.underlying30 Tryd.underlying5 (by kernel_rfl) hf with ⟨hcs,_⟩ | ⟨x,l,c,zs,hcs,_,hl,hm,hz,hx,hcell,hwz⟩
    · simp [Value.cells] at hcs
      obtain ⟨rfl,rfl,rfl⟩:=hcs
      exact ⟨[],.inl ⟨rfl,rfl,rfl,rfl⟩⟩
    · simp [Value.cells] at hcs
      obtain ⟨rfl,rfl,rfl⟩:=hcs
      exact ⟨zs,.inr ⟨_,rfl,hl,hm,by simpa using hz,hcell,hwz⟩⟩
  obtain ⟨zs,hr⟩:=hr
  have hb:=hr.bytes
  have e:INTS ((zs.take len).map Int.toNat)=zs.take len:=by
    unfold INTS
    rw [List.map_map]
    conv=>rhs;rw [← List.map_id (zs.take len)]
    apply List.map_congr_left
    intro x hx
    have:=hb.2.2 x hx
    simp
    omega
  refine ⟨(zs.take len).map Int.toNat,Text.of_bytes (by rw [e];exact hb),fun h=>?_⟩
  rcases hr with ⟨_,_,h3,_⟩ | ⟨x,h1,_⟩
  · exact h3
  · rw [h] at h1
    cases h1
theorem za1 {H:Type} {enc:TypeId × Value→H} {W:World} {base fuel n:Nat} {sp:Nat→Bool} {held:Bool} {t:TypeId} {cs:List Value} {ps:List MemPlace} (L:List Nat) (hL:L.length=n) (ht:Tryd.prog.underlying t=some (.array n 77))
    (hd:DataW.trod enc Tryd.prog W base sp held fuel t cs=some (.agg (L.map fun n=>.lit (.int .u32 (n:Nat))),ps)) (i:Nat) (hi:i<n):cs[i]?=some (.int .u32 (L.getD i 0:Nat)):=by
  obtain ⟨xs,m1,rfl,hx1,hlen,hn,hel⟩:=DataW.trod_array ht hd
  have c5:Tryd.prog.cellsOf 77=1:=by kernel_rfl
  simp only [Prod.mk.injEq,DataW.agg.injEq] at hx1
  have hx:=hx1.1
  have h0:=hel i hi
  have hi':i<xs.length:=by omega
  rw [List.getElem?_eq_getElem hi',c5,Nat.mul_one] at h0
  obtain ⟨k,e1,e2,_⟩:=DataW.trod_int Tryd.underlying77 h0
  have hk:(k:Int)=((L.getD i 0:Nat):Int):=by
    have hz:=congrArg (fun l=>l[i]?) hx
    have hT:i<L.length:=by omega
    simp only [List.getElem?_map,List.getElem?_eq_getElem hi',List.getElem?_eq_getElem hT,Option.map_some,e2] at hz
    simp at hz
    rw [List.getD_eq_getElem?_getD,List.getElem?_eq_getElem hT]
    simpa using hz.symm
  rw [← hk]
  have:=congrArg (fun l=>l[0]?) e1
  simpa using this
end Go.Proofs.YtbmjoiiagldklaaDoor.HX

namespace Go.Proofs.YtbmjoiiagldklaaDoor
open Go.ChangeShapes Go.WideShapes Go.ChangeAt Go.WideMaps Go.WideElems Go.RowKit
set_option maxRecDepth 100000
theorem zfy {W:World} (h:laidMetH Tryd.prog [("math/bits.deBruijn64tab",Rows.laid_math_bits_deBruijn64tab),("massif/hash.begin",Rows.laid_massif_hash_begin),("massif/hash.rounds",Rows.laid_massif_hash_rounds)] W):Tabled W∧HX.Tabled W∧2<W.heap.size:=by
  rw [MakeChecks.laidMetH_plain _ _ _ (by kernel_rfl)] at h
  obtain ⟨ps,⟨g0,t0,cs0,f0,p0,q0,hg0,ht0,hv0,hd0,⟨g1,t1,cs1,f1,p1,q1,hg1,ht1,hv1,hd1,⟨g2,t2,cs2,f2,p2,q2,hg2,ht2,hv2,hd2,_,_⟩,_⟩,_⟩,_,_⟩:=h
  obtain rfl:=Option.some.inj (gTab.symm.trans hg0)
  obtain rfl:=Option.some.inj (tTab.symm.trans ht0)
  obtain rfl:=Option.some.inj (HX.gBegin.symm.trans hg1)
  obtain rfl:=Option.some.inj (HX.tBegin.symm.trans ht1)
  obtain rfl:=Option.some.inj (HX.gRounds.symm.trans hg2)
  obtain rfl:=Option.some.inj (HX.tRounds.symm.trans ht2)
  rw [HX.zei] at hd1
  rw [HX.zcF] at hd2
  have A:∀ i,i<8→W.cell? ⟨1,i,none⟩=some (.int .u32 (HX.BEGIN.getD i 0:Nat)):=fun i hi=>(World.var?_cell hg1 hv1 i).trans (Array.getElem?_toList.symm.trans (HX.za1 HX.BEGIN rfl Tryd.underlying78 hd1 i hi))
  have B:∀ i,i<64→W.cell? ⟨0,i,none⟩=some (.int .u32 (HX.KC i:Nat)):=fun i hi=>(World.var?_cell hg2 hv2 i).trans (Array.getElem?_toList.symm.trans (HX.za1 HX.KLIST rfl Tryd.underlying80 hd2 i hi))
  obtain ⟨xs,m1,rfl,hx1,hlen,hn,hel⟩:=DataW.trod_array Tryd.underlying42 hd0
  have c5:Tryd.prog.cellsOf 5=1:=by kernel_rfl
  simp only [Prod.mk.injEq] at hx1
  have hx:=hx1.1
  rw [zij] at hx
  simp only [DataW.agg.injEq] at hx
  have T:Tabled W:=fun i hi=>by
    have h0:=hel i hi
    have hi':i<xs.length:=by omega
    rw [List.getElem?_eq_getElem hi',c5,Nat.mul_one] at h0
    obtain ⟨k,e1,e2,_⟩:=DataW.trod_int Tryd.underlying5 h0
    have hk:(k:Int)=((TAB.getD i 0:Nat):Int):=by
      have hz:=congrArg (fun l=>l[i]?) hx
      have hT:i<TAB.length:=hi
      simp only [List.getElem?_map,List.getElem?_eq_getElem hi',List.getElem?_eq_getElem hT,Option.map_some,e2] at hz
      simp at hz
      rw [List.getD_eq_getElem?_getD,List.getElem?_eq_getElem hT]
      simpa using hz.symm
    have hv:=World.var?_cell hg0 hv0 i
    rw [hv,← hk]
    have:=congrArg (fun l=>l[0]?) e1
    simp at this
    simpa using this
  have z0:2<W.heap.size:=World.block_lt_of_cell? W _ (T 0 (by decide))
  have z1:1<W.heap.size:=World.block_lt_of_cell? W _ (A 0 (by decide))
  have z2:0<W.heap.size:=World.block_lt_of_cell? W _ (B 0 (by decide))
  exact ⟨T,⟨B,A,by omega⟩,by omega⟩
end Go.Proofs.YtbmjoiiagldklaaDoor
