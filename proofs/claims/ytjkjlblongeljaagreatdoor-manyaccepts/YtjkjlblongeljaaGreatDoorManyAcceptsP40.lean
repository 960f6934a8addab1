/- Texts of ManyAccepts, one behind the other: ManyAcceptsWalk, PosDoor, ProofDoor. -/
import Derived.Test.YtjkjlblongeljaaGreatDoorRows
import Derived.ProofKit
import Derived.LaidMore
import Derived.OpenShut
import Derived.Stop.Joined
import Derived.Deep.Strs
import Derived.Test.YtjkjlblongeljaaGreatDoorManyAcceptsP13
import Derived.Test.YtjkjlblongeljaaGreatDoorManyAcceptsP39
namespace Go.Proofs.YtjkjlblongeljaaGreatDoor
open Go.RowKit
set_option maxRecDepth 100000
theorem zek {n:Nat} (h:n<2 ^ 40):IntKind.u64.wrap (n:Int)=(n:Int):=by
  simp [IntKind.wrap,IntKind.signed,IntKind.bits]
  omega
def LFN (lv:List Int) (i:Nat):Nat→Nat:=FNC (HSH lv i)
theorem z72 {d:Int} {lv:List Int} {nl:Nat} (hl:HSS nl lv) {i:Nat} (hi:i<nl):TVAL d (LFN lv) 0 i=HSH lv i:=by
  show LST (FNC (HSH lv i))=HSH lv i
  refine z4B ⟨z0w hl.1 hi,fun x hx=>hl.2 x (List.mem_of_mem_drop (List.mem_of_mem_take hx))⟩
def ONEH:List Int:=1 :: List.replicate 31 0
theorem zel:(z00 ONEH).toArray=#[.int .u8 1,.int .u8 0,.int .u8 0,.int .u8 0,.int .u8 0,.int .u8 0,.int .u8 0,.int .u8 0,.int .u8 0,.int .u8 0,.int .u8 0,.int .u8 0,.int .u8 0,.int .u8 0,.int .u8 0,.int .u8 0,.int .u8 0,.int .u8 0,.int .u8 0,.int .u8 0,.int .u8 0,.int .u8 0,.int .u8 0,.int .u8 0,.int .u8 0,.int .u8 0,.int .u8 0,.int .u8 0,.int .u8 0,.int .u8 0,.int .u8 0,.int .u8 0]:=rfl
structure VALS (d:Int) (R:List Int) (i:Nat) (L:List Nat) (LV b nd:List Int):Prop where
  ok:MVA d R i L L.length LV b=0
  count:∀ lv' m,m≠L.length→MVA d R i L m lv' b=70
  size:MVA d R (i+1) L L.length LV b=30
  index:∀ L' lv' m,L'≠L→MVA d R i L' m lv' b=32
theorem zfs {d:Int} {R:List Int} {i:Nat} {L:List Nat} {LV b nd:List Int} (h:MDC b=(0,i,L,nd)) (hR:z17 d i (FLD d (MUPS d (TPS i) L LV nd) (PC i))=R):VALS d R i L LV b nd:=by
  have e1:(MDC b).1=0:=by rw [h]
  have e2:(MDC b).2.1=i:=by rw [h]
  have e3:(MDC b).2.2.1=L:=by rw [h]
  have e4:(MDC b).2.2.2=nd:=by rw [h]
  exact ⟨(z37 ..).ok e1 e2 e3 rfl (by rw [e4];exact hR),fun lv' m hm=>(z37 ..).count e1 e2 e3 hm,(z37 ..).size e1 (by rw [e2];omega),fun L' lv' m hL=>(z37 ..).index e1 e2 (by rw [e3];exact fun e=>hL e.symm)⟩
def SLN (a:Option Addr) (c:Nat):Option Addr:=match a with
  | none=>none
  | some ad=>if c=1 then some ad else some ⟨ad.block,ad.off+1,none⟩
theorem zbf (b off n c:Nat) (hk:0<n) (hc:n≤c) (w:World):(Instr.slice 23 (.slice (some ⟨b,off,none⟩) n c) (some (.int .i64 1)) none none).run Tryz.prog w=.ok (.slice (SLN (some ⟨b,off,none⟩) c) (n - 1) (c - 1)) w:=by
  have k1:(1:Int)≤(n:Int):=by omega
  by_cases e:c=1
  · obtain rfl:n=1:=by omega
    subst e
    simp [SLN,go_sem]
  · simp [SLN,e,go_sem,k1,Addr.add]
theorem NUML.behind {w:World} {b off n c:Nat} {L:List Nat} (h:NUML w (some ⟨b,off,none⟩) L) (hl:L.length=n) (hc:n≤c):NUML w (SLN (some ⟨b,off,none⟩) c) (L.drop 1):=fun h0=>by
  rw [List.length_drop] at h0
  obtain ⟨b',o',e,hb,hcs⟩:=h (by omega)
  cases e
  refine ⟨b,off+1,by simp [SLN,show ¬ c=1 by omega],hb,fun i x hx=>?_⟩
  rw [List.getElem?_drop] at hx
  rw [Nat.add_assoc]
  exact hcs (1+i) x hx
theorem zft {L:List Nat} (h:0<L.length):L.drop 1≠L:=fun e=>by
  have:=congrArg List.length e
  rw [List.length_drop] at this
  omega
set_option maxHeartbeats 2000000 in
theorem z8i (d:Int) (al:Option Addr) (nl cl:Nat) (ai:Option Addr) (n ci:Nat) (w:World) (h:¬ (nl≤200∧n≤200)):
    Calls Tryz.prog 4 #[.int .i64 d,.slice al nl cl,.slice ai n ci] w fun e w'=>e=.returned (.bool true)∧Below w.heap.size w w':=by
  by_cases hn:(200:Int)<(nl:Int)
  · clear h
    go_enter Tryz.func4,Tryz.ntmps4
    go_wp2_with fail
    go_ret
    exact ⟨rfl,Below.refl _ _⟩
  · have hk:(200:Int)<(n:Int):=by omega
    clear h
    go_enter Tryz.func4,Tryz.ntmps4
    go_wp2_with fail
    go_ret
    exact ⟨rfl,Below.refl _ _⟩
set_option maxHeartbeats 16000000 in
theorem z8j (d:Int) (al:Option Addr) (nl cl:Nat) (lv:List Int) (ai:Option Addr) (n ci:Nat) (L:List Nat) (w:World) (hFl:Flat w al nl lv) (hl:L.length=n) (hci:ai=none→ci=0) (hcap:n≤ci) (hL:NUML w ai L) (hx:∀ x∈L,x<2 ^ 64) (hnl:nl≤200) (hn:n≤200) (hT:Tabled w) (hX:HX.Tabled w) (h0:2<w.heap.size):
    Calls Tryz.prog 4 #[.int .i64 d,.slice al nl cl,.slice ai n ci] w fun e w'=>e=.returned (.bool true)∧Below w.heap.size w w':=by
  have cn:=HX.zb1 d 3 (by decide) w
  have i1:¬ (200:Int)<(nl:Int):=by omega
  have i2:¬ (200:Int)<(n:Int):=by omega
  have HA:Aside (L.length=n∧n≤200∧nl≤200∧(ai=none→ci=0)∧(∀ x∈L,x<2 ^ 64)∧NUML w ai L∧Flat w al nl lv∧HSS nl lv):=⟨hl,hn,hnl,hci,hx,hL,hFl,hFl.1,hFl.2.2⟩
  have tab:Aside (∀ W,Below w.heap.size w W→Tabled W∧HX.Tabled W∧0<W.heap.size):=fun W hb=>⟨hT.below (by omega) hb,hX.below hb,by have:=hb.size;omega⟩
  have GB:Aside (1<w.heap.size):=hX.2.2
  have HCAP:Aside (n≤ci):=hcap
  clear hFl hl hci hL hx hnl hn hT hX h0 hcap
  go_enter Tryz.func4,Tryz.ntmps4
  go_wp2_with fail
  refine cn.mono ?_
  rintro e w1 ⟨g,rfl,hg,hH,hb1⟩
  clear cn i1 i2
  have A1:Aside (HX.FOREST w1 w.heap.size g d 3 0 (fun _=>none) (LFN lv)∧Below w.heap.size w w1):=⟨HX.FOREST.new hH (by decide) hg (LFN lv),hb1⟩
  clear hg hH hb1
  go_wp2_with fail
  go_loopg [9] nl (fun r s9 wx=>∃ (i:Nat) (C:HX.z05),s9=.int .i64 (i:Int)∧Aside (i+r=nl∧HX.FOREST wx w.heap.size g d 3 i C (LFN lv)∧Below w.heap.size w wx))
  case atStart=>exact ⟨0,_,rfl,by omega,A1.out⟩
  case round=>
    obtain ⟨i,C,rfl,A⟩:=hrel
    clear A1
    cases gk with
    | succ r=>
      have hin:i<nl:=by have:=A.out.1;omega
      have hlt:(i:Int)<(nl:Int):=by omega
      obtain ⟨lb,lo,rfl,hlb,_⟩:=HA.out.2.2.2.2.2.2.1.2.1 (by omega)
      have hrg:wr.rangeAt lb (lo+i*32) (z00 (HSH lv i)):=(HA.out.2.2.2.2.2.2.1.below A.out.2.2).at hin
      have hI:IsH (HSH lv i):=⟨z0w HA.out.2.2.2.2.2.2.2.1 hin,fun x hx=>HA.out.2.2.2.2.2.2.2.2 x (List.mem_of_mem_drop (List.mem_of_mem_take hx))⟩
      have cA:=HX.zcO A.out.2.1 (LFN lv i) (fun j=>z30 hI j) (by have:=HA.out;omega) (tab.out wr A.out.2.2).2.1 GB.out A.out.2.2.size
      have h32:=hI.1
      rw [show HX.UARR .u8 32 (LFN lv i)=(z00 (HSH lv i)).toArray from (z1g hI).symm] at cA
      have ei:wrap64 ((i:Int)+1)=((i+1:Nat):Int):=by have:=HA.out;unfold wrap64;omega
      have A3:Aside (i+1+r=nl):=by have:=A.out.1;show i+1+r=nl;clear ei;omega
      clear hin hlb hI
      go_wp2_with (refine wpList_load_mid rfl 35 (.tmp 49) rfl lb (lo+i*32) rfl (z00 (HSH lv i)) _ hrg Tryz.underlying35 rfl (z0l h32) ?_)
      refine cA.mono ?_
      rintro e w3 ⟨rfl,C',a1,a2,a3⟩
      have A4:Aside (HX.FOREST w3 w.heap.size g d 3 (i+1) C' (LFN lv)∧Below w.heap.size w w3):=by
        refine ⟨a1.congr fun k hk=>?_,A.out.2.2.trans a3⟩
        unfold HX.z0A
        split
        · rename_i e;rw [e]
        · rfl
      clear cA hrg a1 a2 a3 A
      go_wp2_with fail
      go_roundg r
      case measure=>exact Nat.lt_succ_self _
      case rel=>exact ⟨i+1,C',by first | rfl | (rw [ei]),A3.out,A4.out⟩
    | zero=>
      obtain rfl:i=nl:=by have:=A.out.1;omega
      have hlt:¬ (i:Int)<(i:Int):=by omega
      have eu:=zek (n:=i) (by have:=HA.out;omega)
      have cm:=z7V ai n ci L HA.out.1 (by have:=HA.out;omega) HA.out.2.2.2.1 wr (HA.out.2.2.2.2.2.1.keep A.out.2.2)
      have F0:Aside (HX.FOREST wr w.heap.size g d 3 i C (LFN lv)∧Below w.heap.size w wr):=A.out.2
      clear A
      go_wp2_with fail
      refine cm.mono ?_
      rintro e w2 ⟨g1,q1,rfl,G⟩
      clear cm
      have hb2:Below w.heap.size w w2:=F0.out.2.trans (G.below.mono F0.out.2.size)
      have t2:=tab.out w2 hb2
      have ck:=z77 (F0.out.1.below G.below) L (some ⟨g1,0,none⟩) n q1 HA.out.1 (by have:=HA.out;omega) (by have:=G.room;omega) (fun e=>by cases e) (fun x e=>by cases e;exact ⟨G.lt,rfl⟩) (G.lies HA.out.1) (by have:=HA.out;omega) t2.1 t2.2.2
      have F2:Aside (HX.FOREST w2 w.heap.size g d 3 i C (LFN lv)∧Below w.heap.size w w2):=⟨F0.out.1.below G.below,hb2⟩
      clear G hb2 t2 F0
      go_wp2_with fail
      refine ck.mono ?_
      rintro e w3 ⟨hb3,h3⟩
      clear ck
      have F3:Aside (HX.FOREST w3 w.heap.size g d 3 i C (LFN lv)∧Below w.heap.size w w3):=⟨F2.out.1.below hb3,F2.out.2.trans (hb3.mono F2.out.2.size)⟩
      rcases h3 with ⟨hr,rfl⟩ | ⟨hr,a1,c1,a2,c2,rfl,o1,o2⟩
      · have hne:(z0c L i == 0)=false:=beq_eq_false_iff_ne.2 hr
        generalize z0c L i=E at *
        clear hb3 hr F2
        go_upto_region 12 with fail
        obtain ⟨w4,e4⟩:∃ w4,w3.alloc (.cells #[.int .u64 0,.slice none 0 0,.slice none 0 0] 46)=w4:=⟨_,rfl⟩
        have hb4:Below w3.heap.size w3 w4:=by rw [← e4];exact (Below.refl _ _).alloc (Nat.le_refl _) _
        have x2:w4.cell? ⟨w3.heap.size,2,none⟩=some (.slice none 0 0):=by rw [← e4];exact (Has.new w3 _ _).cell 2
        rw [e4]
        have hb:Below w.heap.size w w4:=F3.out.2.trans (hb4.mono F3.out.2.size)
        have t4:=tab.out w4 hb
        have ca:=z3S w4 t4.1 t4.2.2
        have FB:Aside (Below w.heap.size w w4):=hb
        generalize w3.heap.size=b11 at *
        clear e4 hb4 hb t4 F3
        go_wp2_with fail
        refine ca.mono ?_
        rintro e w5 ⟨rfl,hb5⟩
        clear ca x2
        have FN:Aside (Below w.heap.size w w5):=FB.out.trans (hb5.mono FB.out.size)
        clear hb5 FB
        go_wp2_with fail
        go_ret
        exact ⟨rfl,FN.out⟩
      · obtain ⟨K,hK⟩:∃ K,(z08 (TPS i) L).length=K:=⟨_,rfl⟩
        obtain ⟨nd,hnd⟩:∃ nd,CAT (TVAL d (LFN lv)) (NSPS (TPS i) L)=nd:=⟨_,rfl⟩
        obtain ⟨r1,r2,r3⟩:=z1q hr
        have hfew:=z3g (TPS i) 0 i L (z20 r1) (fun x hx=>⟨Nat.zero_le _,r3 x hx⟩) r2
        have hacc:=z8g d (LFN lv) (n:=i) (by have:=HA.out;omega) hr
        have hndl:nd.length=32*K:=by rw [← hnd,← hK,z6p (z2v d (LFN lv)),z1L,List.length_map]
        have hndr:∀ y∈nd,0≤y∧y≤255:=by
          intro y hy
          rw [← hnd] at hy
          obtain ⟨s,hs,hy⟩:=List.mem_flatMap.1 hy
          have hin:=z6m (TPS i) 0 i L (z20 r1) s hs
          exact (zfa (fun k hk j=>z30 ⟨z0w HA.out.2.2.2.2.2.2.2.1 hk,fun x hx=>HA.out.2.2.2.2.2.2.2.2 x (List.mem_of_mem_drop (List.mem_of_mem_take hx))⟩ j) hin).2 y hy
        rw [hnd] at hacc o2
        rw [hK] at o2 hfew
        rw [HA.out.1] at o1
        have HR:Aside (MWA L i K=0∧(∀ x∈L,x<i)∧MDC (MWRT L i nd)=(0,i,L,nd)∧z17 d i (FLD d (MUPS d (TPS i) L (L.flatMap (TVAL d (LFN lv) 0)) nd) (PC i))=LST (HX.z16 d (LFN lv) i)∧nd.length=32*K∧(∀ y∈nd,0≤y∧y≤255)∧K≤200):=⟨z4G hr hK.symm,r3,hacc.1,hacc.2,hndl,hndr,by have:=HA.out;omega⟩
        rw [hK,HA.out.1]
        clear hacc r1 r2 r3 hfew hndl hndr hr hK hnd F2
        go_upto_region 12 with fail
        obtain ⟨w4,e4⟩:∃ w4,w3.alloc (.cells #[.int .u64 (i:Int),.slice a1 n c1,.slice a2 K c2] 46)=w4:=⟨_,rfl⟩
        have hb4:Below w3.heap.size w3 w4:=by rw [← e4];exact (Below.refl _ _).alloc (Nat.le_refl _) _
        have hP4:Has w4 w3.heap.size #[.int .u64 (i:Int),.slice a1 n c1,.slice a2 K c2] 46:=by rw [← e4];exact Has.new _ _ _
        rw [e4]
        have W4:Aside (Has w4 w3.heap.size #[.int .u64 (i:Int),.slice a1 n c1,.slice a2 K c2] 46∧w4.ownsRow w2.heap.size 24 1 (.slice a1 n c1) n (UCELLS L)∧w4.ownsRow w2.heap.size 35 32 (.slice a2 K c2) K (z00 nd)∧HX.FOREST w4 w.heap.size g d 3 i C (LFN lv)∧Below w.heap.size w w4):=⟨hP4,z0D o1 fun k e=>hb4.block k (o1.lt k e).2,z0D o2 fun k e=>hb4.block k (o2.lt k e).2,F3.out.1.below hb4,F3.out.2.trans (hb4.mono F3.out.2.size)⟩
        generalize w3.heap.size=b11 at *
        clear e4 hb4 hP4 o1 o2 F3 hb3
        go_wp2_with fail
        go_loopg [13,14] n (fun q s13 s14 wx=>∃ (k:Nat) (va:Option Addr) (vc:Nat),s13=.slice va k vc∧s14=.int .i64 (k:Int)∧Aside (k+q=n∧Below w4.heap.size w4 wx∧wx.ownsRow w4.heap.size 35 32 (.slice va k vc) k (z00 ((L.take k).flatMap (TVAL d (LFN lv) 0)))))
        case atStart=>exact ⟨0,none,0,rfl,rfl,by omega,Below.refl _ _,⟨rfl,.inl ⟨rfl,rfl⟩⟩⟩
        case round=>
          obtain ⟨k,va,vc,rfl,rfl,A⟩:=hrel
          cases gk with
          | succ q=>
            have hkn:k<n:=by have:=A.out.1;omega
            have hlt2:(k:Int)<(n:Int):=by omega
            have hbw:Below w.heap.size w wr:=W4.out.2.2.2.2.trans (A.out.2.1.mono W4.out.2.2.2.2.size)
            obtain ⟨x,ex⟩:∃ x,L[k]?=some x:=⟨_,List.getElem?_eq_getElem (by have:=HA.out.1;omega)⟩
            have hxi:x<i:=HR.out.2.1 x (List.mem_of_getElem? ex)
            obtain ⟨bi,oi,rfl,hbi,hci⟩:=HA.out.2.2.2.2.2.1 (by have:=HA.out.1;omega)
            obtain ⟨lb,lo,rfl,hlb,_⟩:=HA.out.2.2.2.2.2.2.1.2.1 (by omega)
            have hc1:wr.cell? ⟨bi,oi+k,none⟩=some (.int .u64 (x:Int)):=(hbw.cell (p:=⟨bi,oi+k,none⟩) hbi).trans (hci k x ex)
            have hrg:wr.rangeAt lb (lo+x*32) (z00 (HSH lv x)):=(HA.out.2.2.2.2.2.2.1.below hbw).at hxi
            have h32:=z0w HA.out.2.2.2.2.2.2.2.1 hxi
            have g1:¬ (i:Int)≤(x:Int):=by omega
            have g2:(x:Int)<(i:Int):=by omega
            have ek:wrap64 ((k:Int)+1)=((k+1:Nat):Int):=by have:=HA.out;unfold wrap64;omega
            have R:Aside (k+1+q=n∧Below w4.heap.size w4 wr∧wr.ownsRow w4.heap.size 35 32 (.slice va k vc) k (z00 ((L.take k).flatMap (TVAL d (LFN lv) 0)))∧(L.take (k+1)).flatMap (TVAL d (LFN lv) 0)=(L.take k).flatMap (TVAL d (LFN lv) 0) ++ HSH lv x∧n≤200):=by
              refine ⟨by have:=A.out.1;clear ek;omega,A.out.2.1,A.out.2.2,?_,HA.out.2.1⟩
              rw [List.take_add_one,ex,List.flatMap_append]
              simp [z72 HA.out.2.2.2.2.2.2.2 hxi]
            clear A hkn hbw ex hxi hbi hci hlb
            generalize HSH lv x=Y at *
            go_wp2_with (first
              | (refine wpList_load_mid rfl 35 (.tmp 91) rfl lb (lo+x*32) rfl (z00 Y) _ hrg Tryz.underlying35 rfl (z0l h32) ?_)
              | (refine z1n _ rfl 22 35 (.tmp 92) rfl (z00 Y).toArray rfl 32 _ _ Tryz.underlying22 z0K (by simp [z00,h32]) rfl (by decide) (by decide) ?_)
              | (at_builtin;refine z2Z _ rfl (.tmp 85) (.tmp 93) rfl w4.heap.size (.slice va k vc) k _ rfl (R.out.2.2.1.alloc _) _ 1 Y h32 rfl (Has.new _ _ _) (by have:=R.out;clear ek;omega) (by have:=R.out.2.1.size;simp;clear ek;omega) ?_;intro g7 c7 w7 hown hgrow hat hg7))
            have Z:Aside (k+1+q=n∧Below w4.heap.size w4 w7∧w7.ownsRow w4.heap.size 35 32 (.slice (some ⟨g7,0,none⟩) (k+1) c7) (k+1) (z00 ((L.take (k+1)).flatMap (TVAL d (LFN lv) 0)))):=by
              refine ⟨R.out.1,(R.out.2.1.alloc R.out.2.1.size _).grown hgrow (by have:=R.out.2.1.size;simp;clear ek;omega) (fun k e=>(R.out.2.2.1.lt k e).1),?_⟩
              rw [R.out.2.2.2.1,z0N]
              exact hown
            clear hown hgrow hat hg7 R hrg h32 hc1 g1 g2
            go_wp2
            go_roundg q
            case measure=>exact Nat.lt_succ_self _
            case rel=>exact ⟨k+1,some ⟨g7,0,none⟩,c7,rfl,by first | rfl | (rw [ek]),Z.out⟩
          | zero=>
            obtain rfl:k=n:=by have:=A.out.1;omega
            have hlt2:¬ (k:Int)<(k:Int):=by omega
            have hLn:L.length=k:=HA.out.1
            have hO5:=A.out.2.2
            rw [List.take_of_length_le (by omega)] at hO5
            have hb5:Below w.heap.size w wr:=W4.out.2.2.2.2.trans (A.out.2.1.mono W4.out.2.2.2.2.size)
            have hO1:=z0D W4.out.2.1 fun k e=>A.out.2.1.block k (W4.out.2.1.lt k e).2
            have hO2:=z0D W4.out.2.2.1 fun k e=>A.out.2.1.block k (W4.out.2.2.1.lt k e).2
            have q1':=z1r hO1
            have q2':=z1r hO2
            have t5:=tab.out wr hb5
            have hP5:=W4.out.1.keep A.out.2.1
            have x0:=hP5.cell 0
            have x1:=hP5.cell 1
            have x2:=hP5.cell 2
            have ce:=z43 L i a1 k c1 a2 K c2 nd wr hLn (by have:=HA.out;omega) q1'.1 q1'.2.1 q1'.2.2 (by have:=HR.out;omega) (z33 hO1 hLn) (z21 hO2 HR.out.2.2.2.2.2.1) t5.1 t5.2.2
            rw [show MENC L i K nd=(0,MWRT L i nd) from if_pos HR.out.1] at ce
            have hbl:=z9e (L:=L) (N:=i) (l:=nd)
            have hbr:=zbe (L:=L) (N:=i) (l:=nd) (by have:=HA.out;omega) (by have:=HA.out;omega) HA.out.2.2.2.2.1 HR.out.2.2.2.2.2.1
            have hLr:∀ y∈L.flatMap (TVAL d (LFN lv) 0),0≤y∧y≤255:=by
              intro y hy
              obtain ⟨x,hx,hy⟩:=List.mem_flatMap.1 hy
              rw [z72 HA.out.2.2.2.2.2.2.2 (HR.out.2.1 x hx)] at hy
              exact HA.out.2.2.2.2.2.2.2.2 y (List.mem_of_mem_drop (List.mem_of_mem_take hy))
            have HV:Aside (VALS d (LST (HX.z16 d (LFN lv) i)) i L (L.flatMap (TVAL d (LFN lv) 0)) (MWRT L i nd) nd∧MDC (MWRT L i nd)=(0,i,L,nd)):=⟨zfs HR.out.2.2.1 HR.out.2.2.2.1,HR.out.2.2.1⟩
            have HB:Aside ((MWRT L i nd).length≤10000∧(∀ y∈MWRT L i nd,0≤y∧y≤255)∧(∀ y∈L.flatMap (TVAL d (LFN lv) 0),0≤y∧y≤255)∧L.length=k∧k≤200∧i≤200∧K≤200∧(∀ y∈nd,0≤y∧y≤255)):=⟨by have:=HA.out;have:=HR.out;omega,hbr,hLr,hLn,HA.out.2.1,HA.out.2.2.1,HR.out.2.2.2.2.2.2,HR.out.2.2.2.2.2.1⟩
            have hRH:IsH (LST (HX.z16 d (LFN lv) i)):=by rw [← HR.out.2.2.2.1];exact z5d _ _ _
            have W5:Aside (Below w.heap.size w wr∧Has wr b11 #[.int .u64 (i:Int),.slice a1 k c1,.slice a2 K c2] 46∧wr.ownsRow w2.heap.size 24 1 (.slice a1 k c1) k (UCELLS L)∧wr.ownsRow w2.heap.size 35 32 (.slice a2 K c2) K (z00 nd)∧wr.ownsRow w4.heap.size 35 32 (.slice va k vc) k (z00 (L.flatMap (TVAL d (LFN lv) 0)))∧HX.FOREST wr w.heap.size g d 3 i C (LFN lv)∧NUML wr ai L):=⟨hb5,hP5,hO1,hO2,hO5,W4.out.2.2.2.1.below A.out.2.1,HA.out.2.2.2.2.2.1.keep hb5⟩
            have HCI:Aside (ai=none→ci=0):=HA.out.2.2.2.1
            have RT:Aside (∀ W,Below wr.heap.size wr W→Calls Tryz.prog 22 #[.pointer (some ⟨g,0,none⟩)] W fun e w'=>e=.returned (.agg (z00 (LST (HX.z16 d (LFN lv) i))).toArray)∧Below W.heap.size W w'):=fun W hW=>by
              have t:=tab.out W (hb5.trans (hW.mono hb5.size))
              have:=HX.zfp (W5.out.2.2.2.2.2.1.below hW) t.1 t.2.1
              rw [z1K] at this
              exact this
            clear hLn hO5 hb5 hO1 hO2 q1' q2' t5 hP5 hbl hbr hLr A W4 HA HR GB
            generalize LST (HX.z16 d (LFN lv) i)=R at *
            generalize L.flatMap (TVAL d (LFN lv) 0)=LV at *
            generalize MWRT L i nd=b at *
            go_wp2_with fail
            refine ce.mono ?_
            rintro e w6 ⟨a15,c15,rfl,o15,hb6⟩
            clear ce x0 x1 x2
            have hcap15:=z1r o15
            obtain ⟨kb,hkb⟩:∃ kb,b.length=kb:=⟨_,rfl⟩
            rw [hkb] at o15 hcap15
            have FW:Aside (∀ W,Below w6.heap.size w6 W→Has W b11 #[.int .u64 (i:Int),.slice a1 k c1,.slice a2 K c2] 46∧NUML W a1 L∧Flat W a2 K nd∧Flat W va k LV∧NUML W ai L∧Bytes W a15 kb b∧Tabled W∧HX.Tabled W∧0<W.heap.size∧Below w.heap.size w W∧Below wr.heap.size wr W):=fun W hW=>by
              obtain ⟨z1,z2,z3,z4,z5,z6,z7⟩:=W5.out
              have hbW:Below wr.heap.size wr W:=hb6.trans (hW.mono hb6.size)
              have hw:=z1.trans (hbW.mono z1.size)
              have t:=tab.out W hw
              exact ⟨z2.keep hbW,(z33 z3 HB.out.2.2.2.1).keep hbW,(z21 z4 HB.out.2.2.2.2.2.2.2).below hbW,(z21 z5 HB.out.2.2.1).below hbW,z7.keep hbW,(z1t o15 HB.out.2.1).1.below hW,t.1,t.2.1,t.2.2,hw,hbW⟩
            have VC:Aside (k≤vc∧(∀ x,va=some x→x.block<wr.heap.size)∧(va=none→vc=0)):=by
              have:=z1r W5.out.2.2.2.2.1
              exact ⟨this.1,fun x e=>(this.2.2 x e).1,this.2.1⟩
            have KB:Aside (kb≤10000∧kb≤c15∧w6.heap.size=w6.heap.size∧wr.heap.size≤w6.heap.size):=⟨by have:=HB.out.1;omega,hcap15.1,rfl,hb6.size⟩
            have CV:Aside (∀ W (N':Nat) (ai':Option Addr) (n' ci':Nat) (L':List Nat) (a':Option Addr) (m' c':Nat) (lv':List Int),Below w6.heap.size w6 W→L'.length=n'→n'≤200→NUML W ai' L'→Flat W a' m' lv'→m'≤c'→(∀ x,a'=some x→x.block<W.heap.size)→Calls Tryz.prog 21 #[.int .i64 d,.agg (z00 R).toArray,.int .u64 (N':Int),.slice ai' n' ci',.slice a' m' c',.slice a15 kb c15] W fun e w'=>e=.returned (.int .i64 (MVA d R N' L' m' lv' b))∧Below W.heap.size W w'):=fun W N' ai' n' ci' L' a' m' c' lv' hW h1 h2 h3 h4 h5 h6=>by
              have z:=FW.out W hW
              exact z78 d R hRH N' ai' n' ci' L' a' m' c' lv' a15 kb c15 b W h1 h2 h3 h4 h5 h6 z.2.2.2.2.2.1 KB.out.2.1 KB.out.1 z.2.2.2.2.2.2.1 z.2.2.2.2.2.2.2.1 z.2.2.2.2.2.2.2.2.1
            have R6:Aside (∀ W,Below w6.heap.size w6 W→Calls Tryz.prog 22 #[.pointer (some ⟨g,0,none⟩)] W fun e w'=>e=.returned (.agg (z00 R).toArray)∧Below W.heap.size W w'):=fun W hW=>RT.out W (FW.out W hW).2.2.2.2.2.2.2.2.2.2
            have z6:=FW.out w6 (Below.refl _ _)
            have cd:=z46 a15 kb c15 b w6 z6.2.2.2.2.2.1 KB.out.2.1 (by have:=KB.out;omega) z6.2.2.2.2.2.2.1 z6.2.2.2.2.2.2.2.2.1
            rw [HV.out.2] at cd
            unfold DECM at cd
            dsimp only at cd
            rw [HB.out.2.2.2.1] at cd
            have lR:=hRH.1
            rw [hkb]
            clear hcap15 hkb o15 hb6 W5 RT z6 hRH
            go_wp2_with fail
            refine cd.mono ?_
            rintro e w7 ⟨a3,c3,a4,K4,c4,rfl,o3,o4,hK4,hb7⟩
            clear cd
            go_upto_region 23 with fail
            obtain ⟨w8,e8⟩:∃ w8,w7.alloc (.cells #[.int .u64 (i:Int),.slice a3 k c3,.slice a4 K4 c4] 46)=w8:=⟨_,rfl⟩
            have hb8:Below w7.heap.size w7 w8:=by rw [← e8];exact (Below.refl _ _).alloc (Nat.le_refl _) _
            have hQ8:Has w8 w7.heap.size #[.int .u64 (i:Int),.slice a3 k c3,.slice a4 K4 c4] 46:=by rw [← e8];exact Has.new _ _ _
            rw [e8]
            have h68:Below w6.heap.size w6 w8:=hb7.trans (hb8.mono hb7.size)
            have f8:=FW.out w8 h68
            have cs:=zcN (i:Int) a1 a3 k c1 c3 L a2 a4 K K4 c2 c4 nd HB.out.2.2.2.1 (by have:=HB.out;omega) w8 f8.2.1 ((z33 o3 HB.out.2.2.2.1).keep hb8) f8.2.2.1 ((z21 o4 HB.out.2.2.2.2.2.2.2).below hb8) (by have:=HB.out;omega)
            have x0:=f8.1.cell 0
            have x1:=f8.1.cell 1
            have x2:=f8.1.cell 2
            have y0:=hQ8.cell 0
            have y1:=hQ8.cell 1
            have y2:=hQ8.cell 2
            have W8:Aside (Below w6.heap.size w6 w8):=h68
            generalize w7.heap.size=b17 at *
            clear e8 hb8 hQ8 h68 f8 o3 o4 hK4 hb7
            go_wp2_with fail
            refine cs.mono ?_
            rintro e w9 ⟨rfl,hb9⟩
            clear cs x0 x1 x2 y0 y1 y2
            have W9:Aside (Below w6.heap.size w6 w9):=W8.out.trans (hb9.mono W8.out.size)
            clear hb9 W8
            have cr:=R6.out w9 W9.out
            go_wp2_with fail
            refine cr.mono ?_
            rintro e w10 ⟨rfl,hb10⟩
            clear cr
            have W10:Aside (Below w6.heap.size w6 w10):=W9.out.trans (hb10.mono W9.out.size)
            clear hb10 W9
            have cv:=CV.out w10 i ai k ci L va k vc LV W10.out HB.out.2.2.2.1 HB.out.2.2.2.2.1 (FW.out w10 W10.out).2.2.2.2.1 (FW.out w10 W10.out).2.2.2.1 VC.out.1 (fun x e=>by have:=VC.out.2.1 x e;have:=W10.out.size;have:=KB.out.2.2.2;omega)
            have hv0:=HV.out.1.ok
            rw [HB.out.2.2.2.1] at hv0
            rw [hv0] at cv
            clear hv0
            go_wp2_with fail
            refine cv.mono ?_
            rintro e w11 ⟨rfl,hb11⟩
            clear cv
            have W11:Aside (Below w6.heap.size w6 w11):=W10.out.trans (hb11.mono W10.out.size)
            clear hb11 W10
            have cr:=R6.out w11 W11.out
            go_wp2_with fail
            refine cr.mono ?_
            rintro e w12 ⟨rfl,hb12⟩
            clear cr
            have W12:Aside (Below w6.heap.size w6 w12):=W11.out.trans (hb12.mono W11.out.size)
            clear hb12 W11
            have co:=zej va k vc (by have:=HB.out;omega) VC.out.2.2 LV w12 (FW.out w12 W12.out).2.2.2.1
            go_wp2_with fail
            refine co.mono ?_
            rintro e w13 ⟨gr,qr,rfl,o13,_,_,_,hb13⟩
            clear co
            have W13:Aside (Below w6.heap.size w6 w13∧w13.ownsRow w12.heap.size 35 32 (.slice (some ⟨gr,0,none⟩) k qr) k (z00 LV)∧w6.heap.size≤w12.heap.size∧w12.heap.size≤w13.heap.size):=⟨W12.out.trans (hb13.mono W12.out.size),o13,W12.out.size,hb13.size⟩
            clear hb13 W12 o13
            go_wp2_with (first
              | (rw [← zel];refine z1n _ rfl 22 35 (.tmp 135) rfl (z00 ONEH).toArray rfl 32 _ _ Tryz.underlying22 z0K (by rfl) rfl (by decide) (by decide) ?_)
              | (at_builtin;refine z2Z _ rfl (.tmp 134) (.tmp 136) rfl w12.heap.size (.slice (some ⟨gr,0,none⟩) k qr) k _ rfl (W13.out.2.1.alloc _) _ 1 ONEH rfl rfl (Has.new _ _ _) (by have:=HB.out;omega) (by have:=W13.out.2.2.2;simp;omega) ?_;intro g14 c14 w14 hown hgrow hat hg14))
            have W14:Aside (Below w6.heap.size w6 w14∧Flat w14 (some ⟨g14,0,none⟩) (k+1) (LV ++ ONEH)∧k+1≤c14∧g14<w14.heap.size):=by
              have hw:=W13.out
              refine ⟨(hw.1.alloc hw.1.size _).grown hgrow (by have:=hw.1.size;simp;omega) (fun k e=>by have:=(hw.2.1.lt k e).1;omega),?_,(z1r hown).1,hg14⟩
              rw [← z0N] at hown
              exact z21 hown (fun y hy=>by
                rcases List.mem_append.1 hy with hy | hy
                · exact HB.out.2.2.1 y hy
                · exact (by decide:∀ y∈ONEH,0≤y∧y≤255) y hy)
            clear hown hgrow hat hg14 W13
            have cv:=CV.out w14 i ai k ci L (some ⟨g14,0,none⟩) (k+1) c14 (LV ++ ONEH) W14.out.1 HB.out.2.2.2.1 HB.out.2.2.2.2.1 (FW.out w14 W14.out.1).2.2.2.2.1 W14.out.2.1 W14.out.2.2.1 (fun x e=>by cases e;exact W14.out.2.2.2)
            rw [HV.out.1.count (LV ++ ONEH) (k+1) (by have:=HB.out.2.2.2.1;omega)] at cv
            go_wp2_with fail
            refine cv.mono ?_
            rintro e w15 ⟨rfl,hb15⟩
            clear cv
            have W15:Aside (Below w6.heap.size w6 w15):=W14.out.1.trans (hb15.mono W14.out.1.size)
            clear hb15 W14
            have cr:=R6.out w15 W15.out
            go_wp2_with fail
            refine cr.mono ?_
            rintro e w16 ⟨rfl,hb16⟩
            clear cr
            have W16:Aside (Below w6.heap.size w6 w16):=W15.out.trans (hb16.mono W15.out.size)
            clear hb16 W15
            have eu1:IntKind.u64.wrap ((i:Int)+1)=((i+1:Nat):Int):=by rw [IntKind.wrap_u64];have:=HB.out;omega
            have cv:=CV.out w16 (i+1) ai k ci L va k vc LV W16.out HB.out.2.2.2.1 HB.out.2.2.2.2.1 (FW.out w16 W16.out).2.2.2.2.1 (FW.out w16 W16.out).2.2.2.1 VC.out.1 (fun x e=>by have:=VC.out.2.1 x e;have:=W16.out.size;have:=KB.out.2.2.2;omega)
            have hv1:=HV.out.1.size
            rw [HB.out.2.2.2.1] at hv1
            rw [hv1] at cv
            clear hv1
            go_wp2_with fail
            refine cv.mono ?_
            rintro e w17 ⟨rfl,hb17⟩
            clear cv eu1
            have W17:Aside (Below w6.heap.size w6 w17):=W16.out.trans (hb17.mono W16.out.size)
            clear hb17 W16
            have TAIL:Aside (∀ W,Below w6.heap.size w6 W→Calls Tryz.prog 24 #[.int .i64 d,.agg (z00 R).toArray,.int .u64 (i:Int),.slice ai k ci,.slice va k vc,.slice a15 kb c15,.slice va k vc,.slice a15 kb c15] W fun e w'=>e=.returned (.tuple #[.agg #[.slice none 0 0,.slice none 0 0],.bool false])∧Below W.heap.size W w'):=fun W hW=>z6c d (i:Int) R (.slice ai k ci) va k vc vc (.slice a15 kb c15) (.slice a15 kb c15) LV W (by have:=HB.out;omega) (FW.out W hW).2.2.2.1
            have SP:Aside (∀ W W',Below w6.heap.size w6 W→Below W.heap.size W W'→Below w6.heap.size w6 W'):=fun W W' h h'=>h.trans (h'.mono h.size)
            go_upto_region 27 with fail
            have DR:Below w6.heap.size w6 w17.drew:=SP.out _ _ W17.out (Below.refl _ w17).drew
            by_cases hk:(0:Int)<(k:Int)
            · obtain ⟨bi,oi,hai,_,_⟩:=(FW.out w17 W17.out).2.2.2.2.1 (by have:=HB.out;omega)
              obtain ⟨vb,vo,hva,_,_⟩:=(FW.out w17 W17.out).2.2.2.1.2.1 (by omega)
              subst hai hva
              refine zaG w17 d g i k ci k vc kb c15 (k - 1) (ci - 1) (k - 1) (vc - 1) _ _ _ (SLN (some ⟨bi,oi,none⟩) ci) (SLA (some ⟨vb,vo,none⟩) vc 1) R hk (zbf bi oi k ci (by omega) HCAP.out) (fun W=>z4j vb vo k vc 1 (by omega) VC.out.1 W) (fun W=>Below w6.heap.size w6 W) (fun W=>Below w6.heap.size w6 W) (fun W=>Below w6.heap.size w6 W) DR (fun W h=>(R6.out W h).mono fun e W' he=>⟨he.1,SP.out W W' h he.2⟩) (fun W h=>?_) (fun _ _ _ _ _ h=>h) ?_
              · have z:=FW.out W h
                have:=CV.out W i (SLN (some ⟨bi,oi,none⟩) ci) (k - 1) (ci - 1) (L.drop 1) (SLA (some ⟨vb,vo,none⟩) vc 1) (k - 1) (vc - 1) (LV.drop (32*1)) h (by rw [List.length_drop,HB.out.2.2.2.1]) (by have:=HB.out;omega) (z.2.2.2.2.1.behind HB.out.2.2.2.1 HCAP.out) (z.2.2.2.1.behind 1 (by omega) VC.out.1) (by have:=VC.out;omega) (fun x e=>by
                  have hx:x.block=vb:=by
                    unfold SLA at e
                    dsimp only at e
                    split at e <;> (cases e;rfl)
                  have:=VC.out.2.1 _ rfl
                  have:=h.size
                  have:=KB.out.2.2.2
                  rw [hx]
                  dsimp only at *
                  omega)
                rw [HV.out.1.index (L.drop 1) (LV.drop (32*1)) (k - 1) (zft (by have:=HB.out;omega))] at this
                exact this.mono fun e W' he=>⟨he.1,SP.out W W' h he.2⟩
              · intro w18 W18
                have W18:Aside (Below w6.heap.size w6 w18):=W18
                dsimp only
                clear DR W17 CV
                have cr:=R6.out w18 W18.out
                go_wp2_with fail
                refine cr.mono ?_
                rintro e w19 ⟨rfl,hb19⟩
                clear cr
                have W19:Aside (Below w6.heap.size w6 w19):=SP.out _ _ W18.out hb19
                have ct:=TAIL.out w19 W19.out
                clear hb19
                go_wp2_with fail
                refine ct.mono ?_
                rintro e w20 ⟨rfl,hb20⟩
                clear ct
                have W20:Aside (Below w6.heap.size w6 w20):=SP.out _ _ W19.out hb20
                clear hb20
                go_upto_region 30 with fail
                obtain ⟨w21,e21⟩:∃ x,w20.alloc (.cells #[.slice none 0 0,.slice none 0 0] 61)=x:=⟨_,rfl⟩
                have hb21:Below w20.heap.size w20 w21:=by rw [← e21];exact (Below.refl _ _).alloc (Nat.le_refl _) _
                rw [e21]
                have W21:Aside (Below w6.heap.size w6 w21):=SP.out _ _ W20.out hb21
                generalize w20.heap.size=b19 at *
                have ca:=z3S w21 (FW.out w21 W21.out).2.2.2.2.2.2.1 (FW.out w21 W21.out).2.2.2.2.2.2.2.2.1
                clear e21 hb21
                go_wp2_with fail
                refine ca.mono ?_
                rintro e w22 ⟨rfl,hb22⟩
                clear ca
                have FN:Aside (Below w.heap.size w w22):=(FW.out w22 (SP.out _ _ W21.out hb22)).2.2.2.2.2.2.2.2.2.1
                clear hb22
                go_wp2_with fail
                go_ret
                exact ⟨rfl,FN.out⟩
            · refine z8M w17 ai k ci hk (fun W=>Below w6.heap.size w6 W) DR (fun _ _ _ _ _ h=>h) ?_
              intro w18 W18
              have W18:Aside (Below w6.heap.size w6 w18):=W18
              dsimp only
              clear DR W17 CV
              have cr:=R6.out w18 W18.out
              go_wp2_with fail
              refine cr.mono ?_
              rintro e w19 ⟨rfl,hb19⟩
              clear cr
              have W19:Aside (Below w6.heap.size w6 w19):=SP.out _ _ W18.out hb19
              have ct:=TAIL.out w19 W19.out
              clear hb19
              go_wp2_with fail
              refine ct.mono ?_
              rintro e w20 ⟨rfl,hb20⟩
              clear ct
              have W20:Aside (Below w6.heap.size w6 w20):=SP.out _ _ W19.out hb20
              clear hb20
              go_upto_region 30 with fail
              obtain ⟨w21,e21⟩:∃ x,w20.alloc (.cells #[.slice none 0 0,.slice none 0 0] 61)=x:=⟨_,rfl⟩
              have hb21:Below w20.heap.size w20 w21:=by rw [← e21];exact (Below.refl _ _).alloc (Nat.le_refl _) _
              rw [e21]
              have W21:Aside (Below w6.heap.size w6 w21):=SP.out _ _ W20.out hb21
              generalize w20.heap.size=b19 at *
              have ca:=z3S w21 (FW.out w21 W21.out).2.2.2.2.2.2.1 (FW.out w21 W21.out).2.2.2.2.2.2.2.2.1
              clear e21 hb21
              go_wp2_with fail
              refine ca.mono ?_
              rintro e w22 ⟨rfl,hb22⟩
              clear ca
              have FN:Aside (Below w.heap.size w w22):=(FW.out w22 (SP.out _ _ W21.out hb22)).2.2.2.2.2.2.2.2.2.1
              clear hb22
              go_wp2_with fail
              go_ret
              exact ⟨rfl,FN.out⟩
theorem z5p (d:Int) (al:Option Addr) (nl cl:Nat) (lv:List Int) (ai:Option Addr) (n ci:Nat) (L:List Nat) (w:World) (hFl:Flat w al nl lv) (hl:L.length=n) (hci:ai=none→ci=0) (hL:NUML w ai L) (hx:∀ x∈L,x<2 ^ 64) (hcap:n≤ci) (hT:Tabled w) (hX:HX.Tabled w) (h0:2<w.heap.size):
    Calls Tryz.prog 4 #[.int .i64 d,.slice al nl cl,.slice ai n ci] w fun e w'=>e=.returned (.bool true)∧Below w.heap.size w w':=by
  by_cases h:nl≤200∧n≤200
  · exact z8j d al nl cl lv ai n ci L w hFl hl hci hcap hL hx h.1 h.2 hT hX h0
  · exact z8i d al nl cl ai n ci w h
end Go.Proofs.YtjkjlblongeljaaGreatDoor

namespace Go.Proofs.YtjkjlblongeljaaGreatDoor
open Go.ChangeShapes Go.WideShapes Go.ChangeAt Go.WideMaps Go.WideElems Go.RowKit
set_option maxRecDepth 100000
theorem own:ownKnob Tryz.prog.godebug=none:=by kernel_rfl
theorem z6r:laidOutB Tryz.prog=true:=by kernel_rfl
theorem gTab:Tryz.prog.globalNamed "math/bits.deBruijn64tab"=some 2:=by kernel_rfl
theorem tTab:(Tryz.prog.globals[2]?).map (·.type)=some 182:=by kernel_rfl
theorem zfu {H:Type}:(Rows.laid_math_bits_deBruijn64tab:DataW H)=.agg (TAB.map fun n=>.lit (.int .u8 (n:Nat))):=rfl
end Go.Proofs.YtjkjlblongeljaaGreatDoor

namespace Go.Proofs.YtjkjlblongeljaaGreatDoor
open Go.ChangeShapes Go.WideShapes Go.ChangeAt Go.WideMaps Go.WideElems Go.RowKit Go.Deep
set_option maxRecDepth 100000
theorem zcP {H:Type} {enc:TypeId × Value→H} {W:World} {fuel:Nat} {cs:List Value} {x:DataW H × List MemPlace} (hf:DataW.trod enc Tryz.prog W 0 (fun _=>true) true fuel 35 cs=some x):∃ h:List Int,h.length=32∧(∀ x∈h,0≤x∧x≤255)∧cs=z00 h:=by
  obtain ⟨xs,m,rfl,_,hl,hn,hel⟩:=DataW.trod_array Tryz.underlying35 hf
  have c5:Tryz.prog.cellsOf 5=1:=by kernel_rfl
  have c32:Tryz.prog.cellsOf 35=32:=by kernel_rfl
  rw [c32] at hl
  have hx:∀ i,i<32→∃ k:Int,cs[i]?=some (.int .u8 k)∧0≤k∧k≤255:=fun i hi=>by
    have h0:=hel i hi
    rw [List.getElem?_eq_getElem (by omega),c5,Nat.mul_one] at h0
    obtain ⟨k,e1,_,e3⟩:=DataW.trod_int Tryz.underlying5 h0
    have hb:=bounds_u8 e3
    refine ⟨k,?_,by omega,by omega⟩
    have:=congrArg (fun l=>l[0]?) e1
    simpa using this
  have F:∃ f:Nat→Int,∀ i,i<32→cs[i]?=some (.int .u8 (f i))∧0≤f i∧f i≤255:=by
    refine ⟨fun i=>if hi:i<32 then (hx i hi).choose else 0,fun i hi=>?_⟩
    simp only [hi,dif_pos]
    exact (hx i hi).choose_spec
  obtain ⟨f,hf1⟩:=F
  refine ⟨(List.range 32).map f,by simp,fun x hx=>?_,?_⟩
  · simp only [List.mem_map,List.mem_range] at hx
    obtain ⟨i,hi,rfl⟩:=hx
    exact (hf1 i hi).2
  · apply List.ext_getElem?
    intro i
    by_cases hi:i<32
    · rw [(hf1 i hi).1,z0u _ i (by simp;exact hi),List.getD_eq_getElem?_getD,List.getElem?_map,List.getElem?_range hi]
      rfl
    · rw [List.getElem?_eq_none (by omega),List.getElem?_eq_none (by simp [z00];omega)]
theorem zcQ {H:Type} {enc:TypeId × Value→H} {W:World} {fuel:Nat} {a:Option Addr} {k c:Nat} {x:DataW H × List MemPlace} (hf:DataW.trod enc Tryz.prog W 0 (fun _=>true) true fuel 22 [.slice a k c]=some x):
    ∃ l:List Int,Flat W a k l∧(a=none→c=0)∧k≤c:=by
  rcases DataW.trod_slice Tryz.underlying22 hf with ⟨h0,_⟩ | ⟨ad,len,cap,elems,rest,n,_,h0,hx,_,hl,hm,hlen,hel,_,_⟩
  · simp at h0
    obtain ⟨rfl,rfl,rfl⟩:=h0
    exact ⟨[],⟨rfl,fun h=>absurd h (by omega),by simp⟩,fun _=>rfl,Nat.le_refl _⟩
  · simp at h0
    obtain ⟨rfl,rfl,rfl⟩:=h0
    have c32:Tryz.prog.cellsOf 35=32:=by kernel_rfl
    have each:∀ i,i<k→∃ h:List Int,h.length=32∧(∀ x∈h,0≤x∧x≤255)∧∀ j,j<32→W.cell? ((ad.add (i*32)).add j)=some (.int .u8 (h.getD j 0)):=fun i hi=>by
      have h:=hel i hi
      rw [List.getElem?_eq_getElem (by omega),c32,Option.bind_eq_some_iff] at h
      obtain ⟨cs,hcs,ht⟩:=h
      obtain ⟨f,h1,h2,rfl⟩:=zcP ht
      have hs:=(World.cells?_some hcs).2.2
      refine ⟨f,h1,h2,fun j hj=>?_⟩
      have s:=hs j hj
      rw [s]
      exact z0u f j (by omega)
    have F:∃ f:Nat→List Int,∀ i,i<k→(f i).length=32∧(∀ x∈f i,0≤x∧x≤255)∧∀ j,j<32→W.cell? ((ad.add (i*32)).add j)=some (.int .u8 ((f i).getD j 0)):=by
      refine ⟨fun i=>if hi:i<k then (each i hi).choose else [],fun i hi=>?_⟩
      simp only [hi,dif_pos]
      exact (each i hi).choose_spec
    obtain ⟨f,hf2⟩:=F
    have hrange:∀ i,i<k→∀ j,j<32→0≤(f i).getD j 0∧(f i).getD j 0≤255:=fun i hi j hj=>by
      rw [List.getD_eq_getElem?_getD,List.getElem?_eq_getElem (by rw [(hf2 i hi).1];exact hj)]
      exact (hf2 i hi).2.1 _ (List.getElem_mem _)
    refine ⟨(List.range (32*k)).map fun m=>(f (m / 32)).getD (m % 32) 0,⟨by simp,fun h0k=>?_,fun x hx=>?_⟩,(fun e=>by cases e),by omega⟩
    · obtain ⟨b,off,spot⟩:=ad
      have hc:=(hf2 0 h0k).2.2 0 (by decide)
      have hspot:spot=none:=by simpa [Addr.add] using World.cell?_spot hc
      subst hspot
      refine ⟨b,off,rfl,?_,fun m hm=>?_⟩
      · have:=World.block_lt_of_cell? W _ hc
        simpa [Addr.add] using this
      · have h1:=(hf2 (m / 32) (by omega)).2.2 (m % 32) (by omega)
        rw [z19,z19] at h1
        rw [List.getD_eq_getElem?_getD,List.getElem?_map,List.getElem?_range hm]
        simp only [Option.map_some,Option.getD_some]
        rw [← h1]
        congr 2
        omega
    · simp only [List.mem_map,List.mem_range] at hx
      obtain ⟨m,hm,rfl⟩:=hx
      exact hrange _ (by omega) _ (by omega)
theorem zcR {H:Type} {enc:TypeId × Value→H} {W:World} {a:Option Addr} {k c:Nat} {d:DataW H} {ps:List MemPlace} (hd:DataW.Trod enc Tryz.prog W 0 (fun _=>true) true 22 (.slice a k c) d ps):∃ l:List Int,Flat W a k l∧(a=none→c=0)∧k≤c:=by
  obtain ⟨fuel,hf⟩:=hd
  exact zcQ (by simpa [Value.cells] using hf)
end Go.Proofs.YtjkjlblongeljaaGreatDoor
