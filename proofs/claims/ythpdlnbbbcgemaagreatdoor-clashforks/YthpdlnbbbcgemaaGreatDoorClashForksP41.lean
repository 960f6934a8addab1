/- Texts of ClashForks, one behind the other: ClashAwake, ClashForksWalk. -/
import Derived.Test.YthpdlnbbbcgemaaGreatDoorClashForksP40
namespace Go.Proofs.YthpdlnbbbcgemaaGreatDoor.HX
open Go.RowKit
set_option maxRecDepth 100000
theorem z9s (w:World) (x:Nat) (hx:x<256):Text (w.alloc (.cells #[.int .u8 x] 5)) (some ⟨w.heap.size,0,none⟩) 1 [x]:=by
  refine ⟨rfl,fun _=>⟨w.heap.size,0,rfl,by simp,fun i hi=>?_⟩,fun y hy=>by simp at hy;omega⟩
  obtain rfl:i=0:=by omega
  rw [World.cell?_alloc_at _ _ _ _ rfl]
  rfl
theorem zcb (w:World) (x y z:Nat) (hx:x<256) (hy:y<256) (hz:z<256):Text (w.alloc (.cells #[.int .u8 x,.int .u8 y,.int .u8 z] 5)) (some ⟨w.heap.size,0,none⟩) 3 [x,y,z]:=by
  refine ⟨rfl,fun _=>⟨w.heap.size,0,rfl,by simp,fun i hi=>?_⟩,fun u hu=>by simp at hu;omega⟩
  rw [World.cell?_alloc_at _ _ _ _ rfl]
  have e:i=0∨i=1∨i=2:=by omega
  rcases e with rfl | rfl | rfl <;> rfl
theorem zcc (i:Nat) (L:List Nat) (h1:i=1142→L=[118,4,1]) (h2:L≠[0]):(((List.range 32).all fun i=>z08 1 L i == z08 1 [0] i)=true→z1k 1 [0] L=true)∧(i=1142→((List.range 32).all fun i=>z08 1 L i == z08 1 [0] i)=true):=by
  refine ⟨fun h=>?_,fun h=>?_⟩
  · rw [z4p 1 (fun e=>h2 e.symm),List.all_eq_true]
    intro j hj
    have:=List.all_eq_true.1 h j hj
    simp only [beq_iff_eq] at this ⊢
    exact this.symm
  · rw [h1 h]
    exact zdB
theorem z80 (d:Int) (l:List Nat):∃ F:Nat→Nat,z08 d l=F:=⟨_,rfl⟩
theorem za9 (i:Nat) (L:List Nat) (h1:i=1142→L=[118,4,1]) (h2:L≠[0]) (F1 F2:Nat→Nat) (e1:z08 1 L=F1) (e2:z08 1 [0]=F2):∃ r:Bool,(∀ w,(Op.equalIn 10000 24 (.agg (UARR .u8 32 F1)) (.agg (UARR .u8 32 F2))).run Tryz.prog w=.ok r w)∧Aside ((r=true→z1k 1 [0] L=true)∧(i=1142→r=true)):=by
  subst e1 e2
  exact ⟨_,fun w=>z30 _ _ w,zcc i L h1 h2⟩
set_option maxHeartbeats 4000000 in
theorem zdC (w:World) (hT:Tabled w):Calls Tryz.prog 11 #[] w fun e w'=>e=.returned (.bool true)∧Below w.heap.size w w':=by
  have t1:Text (w.alloc (.cells #[.int .u8 0] 5)) (some ⟨w.heap.size,0,none⟩) 1 [0]:=z9s w 0 (by decide)
  have b1:Below w.heap.size w (w.alloc (.cells #[.int .u8 0] 5)):=(Below.refl _ _).alloc (Nat.le_refl _) _
  have t2:Text ((w.alloc (.cells #[.int .u8 0] 5)).alloc (.cells #[.int .u8 0] 5)) (some ⟨w.heap.size,0,none⟩) 1 [0]:=t1.below ((Below.refl _ _).alloc (Nat.le_refl _) _)
  have t3:Text ((w.alloc (.cells #[.int .u8 0] 5)).alloc (.cells #[.int .u8 0] 5)) (some ⟨w.heap.size+1,0,none⟩) 1 [0]:=by
    have h:=z9s (w.alloc (.cells #[.int .u8 0] 5)) 0 (by decide)
    rw [show (w.alloc (.cells #[.int .u8 0] 5)).heap.size=w.heap.size+1 by simp] at h
    exact h
  have b2:Below w.heap.size w ((w.alloc (.cells #[.int .u8 0] 5)).alloc (.cells #[.int .u8 0] 5)):=b1.alloc b1.size _
  have hsz:((w.alloc (.cells #[.int .u8 0] 5)).alloc (.cells #[.int .u8 0] 5)).heap.size=w.heap.size+2:=by simp
  have c1:=z7X 1 (some ⟨w.heap.size,0,none⟩) 1 1 [0] (some ⟨w.heap.size+1,0,none⟩) 1 1 [0] _ t2 (by decide) (fun x hx=>by cases hx;rw [hsz];simp) (by decide) t3 (by decide) (fun x hx=>by cases hx;rw [hsz];simp) (by decide) (hT.below b2)
  have z0:=z5X 1 [0]
  generalize z1k 1 [0] [0]=z at *
  subst z0
  have R:Aside (Tabled w∧Text ((w.alloc (.cells #[.int .u8 0] 5)).alloc (.cells #[.int .u8 0] 5)) (some ⟨w.heap.size,0,none⟩) 1 [0]∧Below w.heap.size w ((w.alloc (.cells #[.int .u8 0] 5)).alloc (.cells #[.int .u8 0] 5))∧((w.alloc (.cells #[.int .u8 0] 5)).alloc (.cells #[.int .u8 0] 5)).heap.size=w.heap.size+2):=⟨hT,t2,b2,hsz⟩
  clear t1 b1 t2 t3 b2 hsz hT
  obtain ⟨F2,hF2⟩:=z80 1 [0]
  go_enter Tryz.func11,Tryz.ntmps11
  go_wp2_with fail
  refine c1.mono ?_
  rintro e w1 ⟨rfl,hb1⟩
  clear c1
  have S:Aside (Tabled w∧Text w1 (some ⟨w.heap.size,0,none⟩) 1 [0]∧Below w.heap.size w w1∧w.heap.size<w1.heap.size):=⟨R.out.1,R.out.2.1.below hb1,R.out.2.2.1.trans (hb1.mono R.out.2.2.1.size),by have:=hb1.size;have:=R.out.2.2.2;omega⟩
  clear R hb1
  go_wp2_with fail
  obtain ⟨N0,hN0⟩:∃ N0:Nat,N0=1141:=⟨_,rfl⟩
  go_loopg [2,3] N0 (fun r s2 s3 wx=>∃ i:Nat,i+r=1142∧1≤i∧s3=.int .i64 i∧Aside (Below w1.heap.size w1 wx))
  case atStart=>exact ⟨1,by omega,by omega,rfl,Below.refl _ _⟩
  case round=>
    obtain ⟨i,hir,hi1,rfl,A⟩:=hrel
    have hlt:(i:Int)<100000:=by omega
    have e1:((i % 256:Nat):Int)=(i:Int) % 256:=by omega
    have e2:((i / 256:Nat):Int)=(i:Int) / 256:=by omega
    have tx:=zcb wr (i % 256) (i / 256) 1 (by omega) (by omega) (by decide)
    rw [e1,e2] at tx
    have bx:Below wr.heap.size wr (wr.alloc (.cells #[.int .u8 ((i:Int) % 256),.int .u8 ((i:Int) / 256),.int .u8 ((1:Nat):Int)] 5)):=(Below.refl _ _).alloc (Nat.le_refl _) _
    have sx:(wr.alloc (.cells #[.int .u8 ((i:Int) % 256),.int .u8 ((i:Int) / 256),.int .u8 ((1:Nat):Int)] 5)).heap.size=wr.heap.size+1:=by simp
    have hq1:i=1142→[i % 256,i / 256,1]=[118,4,1]:=fun h=>by subst h;rfl
    have Sw:Aside (Below w.heap.size w wr∧w.heap.size<wr.heap.size):=⟨S.out.2.2.1.trans (A.out.mono S.out.2.2.1.size),Nat.lt_of_lt_of_le S.out.2.2.2 A.out.size⟩
    have HL:Aside ((i=1142→[i % 256,i / 256,1]=[118,4,1])∧[i % 256,i / 256,1]≠[0]):=⟨hq1,by simp⟩
    generalize [i % 256,i / 256,1]=L at *
    have ca:=sum9 1 ((wr.alloc (.cells #[.int .u8 ((i:Int) % 256),.int .u8 ((i:Int) / 256),.int .u8 ((1:Nat):Int)] 5)).alloc (.cells #[.slice (some ⟨wr.heap.size,0,none⟩) 3 3] 25)) (wr.heap.size+1) (some ⟨wr.heap.size,0,none⟩) 3 3 L (Has.at _ _ _ sx.symm) (tx.below ((Below.refl _ _).alloc (Nat.le_refl _) _)) (by decide) (fun x hx=>by cases hx;simp;omega) (by decide) (S.out.1.below ((Sw.out.1.trans (bx.mono Sw.out.1.size)).alloc (by rw [sx];have:=Sw.out.2;omega) _))
    obtain ⟨F1,hF1⟩:=z80 1 L
    rw [hF1] at ca
    obtain ⟨wa,hwa⟩:∃ wa,(wr.alloc (.cells #[.int .u8 ((i:Int) % 256),.int .u8 ((i:Int) / 256),.int .u8 ((1:Nat):Int)] 5)).alloc (.cells #[.slice (some ⟨wr.heap.size,0,none⟩) 3 3] 25)=wa:=⟨_,rfl⟩
    have ba:Below w.heap.size w wa:=by rw [← hwa];exact (Sw.out.1.trans (bx.mono Sw.out.1.size)).alloc (by rw [sx];have:=Sw.out.2;omega) _
    have br:Below wr.heap.size wr wa:=by rw [← hwa];exact bx.alloc (by rw [sx];omega) _
    have ta:Text wa (some ⟨wr.heap.size,0,none⟩) 3 L:=by rw [← hwa];exact tx.below ((Below.refl _ _).alloc (Nat.le_refl _) _)
    have ga:wr.heap.size<wa.heap.size:=by rw [← hwa];simp;omega
    clear tx bx sx hq1
    go_wp2_with fail
    rw [show (Value.int IntKind.u8 1)=.int .u8 ((1:Nat):Int) from rfl]
    rw [hwa] at ca ⊢
    refine ca.mono ?_
    rintro e w2 ⟨rfl,hb2⟩
    clear ca hwa
    have b2:Below w.heap.size w w2:=ba.trans (hb2.mono ba.size)
    have cb:=sum9 1 (w2.alloc (.cells #[.slice (some ⟨w.heap.size,0,none⟩) 1 1] 25)) w2.heap.size (some ⟨w.heap.size,0,none⟩) 1 1 [0] (Has.new _ _ _) ((((S.out.2.1.below A.out).below br).below hb2).below ((Below.refl _ _).alloc (Nat.le_refl _) _)) (by decide) (fun x hx=>by cases hx;simp;have:=Sw.out.2;have:=hb2.size;omega) (by decide) (S.out.1.below (b2.alloc b2.size _))
    rw [hF2] at cb
    have M:Aside (Below w.heap.size w w2∧Text w2 (some ⟨wr.heap.size,0,none⟩) 3 L∧wr.heap.size<w2.heap.size∧Text w2 (some ⟨w.heap.size,0,none⟩) 1 [0]∧Below wr.heap.size wr w2):=⟨b2,ta.below hb2,Nat.lt_of_lt_of_le ga hb2.size,((S.out.2.1.below A.out).below br).below hb2,br.trans (hb2.mono br.size)⟩
    clear ba br ta ga hb2 b2
    go_wp2_with fail
    refine cb.mono ?_
    rintro e w3 ⟨rfl,hb3⟩
    clear cb
    have M3:Aside (Below w.heap.size w w3∧Text w3 (some ⟨wr.heap.size,0,none⟩) 3 L∧wr.heap.size<w3.heap.size∧Text w3 (some ⟨w.heap.size,0,none⟩) 1 [0]∧Below wr.heap.size wr w3):=by
      have hbb:Below w2.heap.size w2 w3:=((Below.refl _ _).alloc (Nat.le_refl _) _).trans (hb3.mono (by simp))
      obtain ⟨m1,m2,m3,m4,m5⟩:=M.out
      exact ⟨m1.trans (hbb.mono m1.size),m2.below hbb,Nat.lt_of_lt_of_le m3 hbb.size,m4.below hbb,m5.trans (hbb.mono m5.size)⟩
    clear M hb3
    obtain ⟨r,hq,HH⟩:=za9 i L HL.out.1 HL.out.2 F1 F2 hF1 hF2
    clear hF1
    cases r with
    | true=>
      have ch:=z7X 1 (some ⟨w.heap.size,0,none⟩) 1 1 [0] (some ⟨wr.heap.size,0,none⟩) 3 3 L w3 M3.out.2.2.2.1 (by decide) (fun x hx=>by cases hx;have:=Sw.out.2;have:=M3.out.2.2.1;show w.heap.size<_;omega) (by decide) M3.out.2.1 (by decide) (fun x hx=>by cases hx;exact M3.out.2.2.1) (by decide) (S.out.1.below M3.out.1)
      rw [HH.out.1 rfl] at ch
      clear HH
      go_wp2_with fail
      refine ch.mono ?_
      rintro e w4 ⟨rfl,hb4⟩
      clear ch
      have N:Aside (Below w.heap.size w w4):=M3.out.1.trans (hb4.mono M3.out.1.size)
      clear hb4
      go_wp2
      go_ret
      exact ⟨rfl,N.out⟩
    | false=>
      have hne:i≠1142:=fun h=>by have:=HH.out.2 h;cases this
      have e3:wrap64 ((i:Int)+1)=((i+1:Nat):Int):=by unfold wrap64;omega
      have B:Aside (Below w1.heap.size w1 w3):=A.out.trans (M3.out.2.2.2.2.mono A.out.size)
      obtain ⟨gk',rfl⟩:∃ g,gk=g+1:=⟨gk - 1,by omega⟩
      clear HH
      go_wp2
      go_roundg gk'
      case measure=>omega
      exact ⟨i+1,by omega,by omega,rfl,B.out⟩
end Go.Proofs.YthpdlnbbbcgemaaGreatDoor.HX

namespace Go.Proofs.YthpdlnbbbcgemaaGreatDoor
open Go.RowKit
set_option maxRecDepth 100000
set_option maxHeartbeats 1000000 in
theorem z6D (d:Int) (m:Nat) (a b:List Int) (n:Nat) (r:List Int) (pa qa:Option Addr) (pn pc qn qc:Nat) (hk:9600<pn∨9600<qn) (w:World):Calls Tryz.prog 4 #[.int .i64 d,.int .u64 (m:Int),.agg (z01 a).toArray,.agg (z01 b).toArray,.int .u64 (n:Int),.agg (z01 r).toArray,.slice pa pn pc,.slice qa qn qc] w fun e w'=>e=.returned (.bool true)∧Below w.heap.size w w':=by
  have R:Aside (Below w.heap.size w (((w.alloc (.cells (z01 a).toArray 24)).alloc (.cells (z01 b).toArray 24)).alloc (.cells (z01 r).toArray 24))):=(((Below.refl _ _).alloc (Nat.le_refl _) _).alloc (by simp) _).alloc (by simp;omega) _
  by_cases h:(9600:Int)<(pn:Int)
  · go_enter Tryz.func4,Tryz.ntmps4
    go_wp2
    go_ret
    exact ⟨rfl,R.out⟩
  · have h2:(9600:Int)<(qn:Int):=by omega
    go_enter Tryz.func4,Tryz.ntmps4
    go_wp2
    go_ret
    exact ⟨rfl,R.out⟩
set_option maxHeartbeats 16000000 in
theorem z5Y (d:Int) (TS:List Int→Nat) (hTS:zc8 TS) (m:Nat) (hm:m<2 ^ 64) (a b:List Int) (ha:IsH a) (hb:IsH b) (n:Nat) (hn:n<2 ^ 64) (r:List Int) (hr:IsH r) (pa qa:Option Addr) (pn pc qn qc:Nat) (hpn:pn≤9600) (hqn:qn≤9600) (hpz:pa=none→pc=0) (hqz:qa=none→qc=0) (hpc:pn≤pc) (hqc:qn≤qc) (bp bq:List Int) (w:World) (hP:Bytes w pa pn bp) (hQ:Bytes w qa qn bq) (hT:Tabled w) (hX:HX.Tabled w) (h0:2<w.heap.size):
    Calls Tryz.prog 4 #[.int .i64 d,.int .u64 (m:Int),.agg (z01 a).toArray,.agg (z01 b).toArray,.int .u64 (n:Int),.agg (z01 r).toArray,.slice pa pn pc,.slice qa qn qc] w fun e w'=>e=.returned (.bool true)∧Below w.heap.size w w':=by
  have l1:¬ (9600:Int)<(pn:Int):=by omega
  have l2:¬ (9600:Int)<(qn:Int):=by omega
  have la:=ha.1
  have lb:=hb.1
  have lr:=hr.1
  have HTB:Aside (∀ W,Below w.heap.size w W→Tabled W∧HX.Tabled W∧2<W.heap.size):=fun W h=>⟨hT.below (by omega) h,hX.below h,by have:=h.size;omega⟩
  have C1:Aside (∀ W,Below w.heap.size w W→(Calls Tryz.prog 5 #[.slice pa pn pc] W (z8R W pn bp))∧Calls Tryz.prog 5 #[.slice qa qn qc] W (z8R W qn bq)):=fun W h=>⟨z7Z pa pn pc (by omega) hpz bp W (hP.below h),z7Z qa qn qc (by omega) hqz bq W (hQ.below h)⟩
  have C3:Aside (∀ W,Below w.heap.size w W→Calls Tryz.prog 7 #[.int .i64 d,.int .u64 (m:Int),.agg (z01 a).toArray,.int .u64 (n:Int),.agg (z01 r).toArray,.slice pa pn pc] W fun e w'=>e=.returned (.int .i64 (PFE d TS m a n r bp))∧Below W.heap.size W w'):=fun W h=>z4s d m a ha n r hr pa pn pc (by omega) hpc bp _ (hTS bp hP.2.2).1 W (hP.below h) (z2U hP.2.2).1 (z2U hP.2.2).2
  have C4:Aside (∀ W,Below w.heap.size w W→Calls Tryz.prog 7 #[.int .i64 d,.int .u64 (m:Int),.agg (z01 b).toArray,.int .u64 (n:Int),.agg (z01 r).toArray,.slice qa qn qc] W fun e w'=>e=.returned (.int .i64 (PFE d TS m b n r bq))∧Below W.heap.size W w'):=fun W h=>z4s d m b hb n r hr qa qn qc (by omega) hqc bq _ (hTS bq hQ.2.2).1 W (hQ.below h) (z2U hQ.2.2).1 (z2U hQ.2.2).2
  have HH:Aside (∀ s t,CLFK d m a b n (PFE d TS m a n r bp) (PFE d TS m b n r bq) bp bq=some (s,t)→s≠t∧HSHT d s=HSHT d t):=fun s t h=>zc7 h
  have HV:Aside ((CLFK d m a b n (PFE d TS m a n r bp) (PFE d TS m b n r bq) bp bq).isSome=decide (a≠b∧PFE d TS m a n r bp=0∧PFE d TS m b n r bq=0)):=by
    by_cases h:a≠b∧PFE d TS m a n r bp=0∧PFE d TS m b n r bq=0
    · obtain ⟨t,t',s,u,hm⟩:=z7W hTS hm hn hP.2.2 hQ.2.2 (z3D hP.2.2) (z3D hQ.2.2) h
      unfold Aside
      rw [decide_eq_true h,hm.told]
      rfl
    · unfold Aside CLFK
      rw [decide_eq_false h,if_neg h]
      rfl
  have C5g:∀ W gp xc gq yc,Below w.heap.size w W→pn+1≤xc→qn+1≤yc→Bytes W (some ⟨gp,0,none⟩) pn bp→Bytes W (some ⟨gq,0,none⟩) qn bq→Calls Tryz.prog 12 #[.int .i64 d,.int .u64 (m:Int),.agg (z01 a).toArray,.agg (z01 b).toArray,.int .u64 (n:Int),.agg (z01 r).toArray,.slice (some ⟨gp,0,none⟩) pn xc,.slice (some ⟨gq,0,none⟩) qn yc] W (CLASHED W (CLFK d m a b n (PFE d TS m a n r bp) (PFE d TS m b n r bq) bp bq)):=fun W gp xc gq yc h1 h2 h3 h4 h5=>by
    obtain ⟨g1,g2,g3⟩:=HTB.out W h1
    exact zdv d TS hTS m hm a b ha hb n hn r hr _ _ pn xc qn yc (by omega) (by omega) (by omega) (by omega) bp bq W h4 h5 g1 g2 g3 (z3D hP.2.2) (z3D hQ.2.2)
  have C5G:Aside (∀ W gp xc gq yc,Below w.heap.size w W→pn+1≤xc→qn+1≤yc→Bytes W (some ⟨gp,0,none⟩) pn bp→Bytes W (some ⟨gq,0,none⟩) qn bq→Calls Tryz.prog 12 #[.int .i64 d,.int .u64 (m:Int),.agg (z01 a).toArray,.agg (z01 b).toArray,.int .u64 (n:Int),.agg (z01 r).toArray,.slice (some ⟨gp,0,none⟩) pn xc,.slice (some ⟨gq,0,none⟩) qn yc] W (CLASHED W (CLFK d m a b n (PFE d TS m a n r bp) (PFE d TS m b n r bq) bp bq))):=C5g
  have HA:Aside (pn≤9600∧qn≤9600∧Bytes w pa pn bp∧Bytes w qa qn bq):=⟨hpn,hqn,hP,hQ⟩
  generalize CLFK d m a b n (PFE d TS m a n r bp) (PFE d TS m b n r bq) bp bq=X at *
  generalize PFE d TS m a n r bp=U1 at *
  generalize PFE d TS m b n r bq=U2 at *
  obtain ⟨W0,hW0⟩:∃ W0,((w.alloc (.cells (z01 a).toArray 24)).alloc (.cells (z01 b).toArray 24)).alloc (.cells (z01 r).toArray 24)=W0:=⟨_,rfl⟩
  obtain ⟨br,hbr⟩:∃ b,w.heap.size=b:=⟨_,rfl⟩
  have hb0:Below w.heap.size w W0:=by rw [← hW0];exact (((Below.refl _ _).alloc (Nat.le_refl _) _).alloc (by simp) _).alloc (by simp;omega) _
  have kr:Has W0 br (z01 a).toArray 24:=by rw [← hW0,← hbr];exact ((Has.new _ _ _).alloc _).alloc _
  have kx:Has W0 (br+1) (z01 b).toArray 24:=by rw [← hW0,← hbr];exact (Has.at _ _ _ (by simp)).alloc _
  have ky:Has W0 (br+1+1) (z01 r).toArray 24:=by rw [← hW0,← hbr];exact Has.at _ _ _ (by simp)
  obtain ⟨bx,hbx⟩:∃ b,br+1=b:=⟨_,rfl⟩
  rw [hbx] at kx ky
  obtain ⟨by9,hby⟩:∃ b,bx+1=b:=⟨_,rfl⟩
  rw [hby] at ky
  have c1:=(C1.out W0 hb0).1
  have R0:Aside (Below w.heap.size w W0):=hb0
  clear hm hn ha hb hr hpn hqn hpc hqc hpz hqz hP hQ hT hX h0 hb0 C5g hTS
  go_enter Tryz.func4,Tryz.ntmps4
  go_upto_region 1 with fail
  clear hW0 hbr hbx hby
  go_wp2_with fail
  refine c1.mono ?_
  rintro e w1 ⟨gp,xc,rfl,o1,cap1,mk1,lt1,hb1⟩
  clear c1
  have hbw1:Below w.heap.size w w1:=R0.out.trans (hb1.mono R0.out.size)
  have c2:=(C1.out w1 hbw1).2
  go_wp2_with fail
  refine c2.mono ?_
  rintro e w2 ⟨gq,yc,rfl,o2,cap2,mk2,lt2,hb2⟩
  have hbw2:Below w.heap.size w w2:=hbw1.trans (hb2.mono hbw1.size)
  have hb02:Below W0.heap.size W0 w2:=hb1.trans (hb2.mono hb1.size)
  have fa:Bytes w2 (some ⟨gp,0,none⟩) pn bp:=((z0X o1 HA.out.2.2.1.2.2).1).below hb2
  have fb:Bytes w2 (some ⟨gq,0,none⟩) qn bq:=(z0X o2 HA.out.2.2.2.2.2).1
  have m1:w2.cell? ⟨gp,pn,none⟩=some (.int .u8 171):=(hb2.cell (p:=⟨gp,pn,none⟩) lt1).trans mk1
  have lt1':gp<w2.heap.size:=Nat.lt_of_lt_of_le lt1 hb2.size
  have C5:Aside (∀ W,Below w2.heap.size w2 W→Calls Tryz.prog 12 #[.int .i64 d,.int .u64 (m:Int),.agg (z01 a).toArray,.agg (z01 b).toArray,.int .u64 (n:Int),.agg (z01 r).toArray,.slice (some ⟨gp,0,none⟩) pn xc,.slice (some ⟨gq,0,none⟩) qn yc] W (CLASHED W X)):=fun W h=>C5G.out W gp xc gq yc (hbw2.trans (h.mono hbw2.size)) cap1 cap2 (fa.below h) (fb.below h)
  have FN:Aside (∀ W,Below w2.heap.size w2 W→Below w.heap.size w W):=fun W h=>hbw2.trans (h.mono hbw2.size)
  have CK:Aside (∀ W,Below w2.heap.size w2 W→(Calls Tryz.prog 10 #[.slice (some ⟨gp,0,none⟩) pn xc,.slice pa pn pc] W fun e w'=>e=.returned (.bool true)∧Below w2.heap.size w2 w')∧(Calls Tryz.prog 10 #[.slice (some ⟨gq,0,none⟩) qn yc,.slice qa qn qc] W fun e w'=>e=.returned (.bool true)∧Below w2.heap.size w2 w')∧(Calls Tryz.prog 11 #[] W fun e w'=>e=.returned (.bool true)∧Below w2.heap.size w2 w')):=fun W h=>
    ⟨(z6C gp pn xc pa pc bp (by have:=HA.out;omega) cap1 W (fa.below h) (HA.out.2.2.1.below (FN.out W h)) (Nat.lt_of_lt_of_le lt1' h.size) ((h.cell (p:=⟨gp,pn,none⟩) lt1').trans m1)).mono fun e w' h2=>⟨h2.1,h.trans (h2.2.mono h.size)⟩,
     (z6C gq qn yc qa qc bq (by have:=HA.out;omega) cap2 W (fb.below h) (HA.out.2.2.2.below (FN.out W h)) (Nat.lt_of_lt_of_le lt2 h.size) ((h.cell (p:=⟨gq,qn,none⟩) lt2).trans mk2)).mono fun e w' h2=>⟨h2.1,h.trans (h2.2.mono h.size)⟩,
     (HX.zdC W (HTB.out W (FN.out W h)).2.1).mono fun e w' h2=>⟨h2.1,h.trans (h2.2.mono h.size)⟩⟩
  have kr:=kr.keep hb02
  have kx:=kx.keep hb02
  have ky:=ky.keep hb02
  have qx:∀ w,(Op.equalIn 10000 24 (.agg (z01 a).toArray) (.agg (z01 b).toArray)).run Tryz.prog w=.ok (decide (a=b)) w:=fun w=>z3g la lb w
  clear c2 hb1 hb2 hb02 hbw1 fa fb m1 lt1 lt1' lt2 mk1 mk2 o1 o2 cap1 cap2 C5G C1 R0 l1 l2
  by_cases hxy:a=b
  · have hwant:X.isSome=false:=HV.out.trans (decide_eq_false (fun h=>h.1 hxy))
    rw [decide_eq_true hxy] at qx
    have hb23:Below w2.heap.size w2 w2:=Below.refl _ _
    clear hxy HV hbw2
    have c5:=C5.out w2 hb23
    clear C3 C4
    go_wp2_with (first
      | (refine wpList_load_row rfl 24 (.tmp 10) rfl br rfl 24 (z01 a).toArray (0,0) _ kr Tryz.underlying24 rfl (z02 la) ?_)
      | (refine wpList_load_row rfl 24 (.tmp 11) rfl bx rfl 24 (z01 b).toArray (0,0) _ kx Tryz.underlying24 rfl (z02 lb) ?_)
      | (refine wpList_load_row rfl 24 (.tmp 13) rfl by9 rfl 24 (z01 r).toArray (0,0) _ ky Tryz.underlying24 rfl (z02 lr) ?_)
      | fail)
    refine c5.mono ?_
    clear qx
    intro e w7 hcl
    obtain ⟨a1,n1,q1,a2,n2,q2,o1,rfl,t1,hb7⟩:=hcl.told
    clear hcl c5
    have kr:=kr.keep hb7
    have kx:=kx.keep hb7
    have ky:=ky.keep hb7
    go_upto_region 6 with fail
    obtain ⟨w8,hw8⟩:∃ w8,w7.alloc (.cells #[.slice a1 n1 q1,.slice a2 n2 q2] 31)=w8:=⟨_,rfl⟩
    obtain ⟨b15,hb15⟩:∃ b,w7.heap.size=b:=⟨_,rfl⟩
    rw [hw8,hb15]
    have hb78:Below w7.heap.size w7 w8:=by rw [← hw8];exact (Below.refl _ _).alloc (Nat.le_refl _) _
    have hb38:Below w2.heap.size w2 w8:=hb7.trans (hb78.mono hb7.size)
    have hb28:Below w2.heap.size w2 w8:=hb23.trans (hb38.mono hb23.size)
    have k15:Has w8 b15 #[.slice a1 n1 q1,.slice a2 n2 q2] 31:=by rw [← hw8,← hb15];exact Has.new _ _ _
    have t1':=t1.below hb78
    have kr:=kr.keep hb78
    have kx:=kx.keep hb78
    have ky:=ky.keep hb78
    have c6:=C5.out w8 hb28
    have R8:Aside (Below w2.heap.size w2 w8∧Has w8 b15 #[.slice a1 n1 q1,.slice a2 n2 q2] 31∧TOLD1 w8 w2.heap.size X (.slice a1 n1 q1) (.slice a2 n2 q2) o1∧Below w2.heap.size w2 w2):=⟨hb38,k15,t1',hb23⟩
    clear hw8 hb15 hb78 hb38 k15 t1 t1' hb28 hb7 C5 hb23
    go_wp2_with (first
      | (refine wpList_load_row rfl 24 (.tmp 10) rfl br rfl 24 (z01 a).toArray (0,0) _ kr Tryz.underlying24 rfl (z02 la) ?_)
      | (refine wpList_load_row rfl 24 (.tmp 11) rfl bx rfl 24 (z01 b).toArray (0,0) _ kx Tryz.underlying24 rfl (z02 lb) ?_)
      | (refine wpList_load_row rfl 24 (.tmp 13) rfl by9 rfl 24 (z01 r).toArray (0,0) _ ky Tryz.underlying24 rfl (z02 lr) ?_)
      | fail)
    refine c6.mono ?_
    intro e w9 hcl
    obtain ⟨a3,n3,q3,a4,n4,q4,o2,rfl,t2,hb9⟩:=hcl.told
    clear hcl c6 kr kx ky
    go_upto_region 7 with fail
    obtain ⟨w10,hw10⟩:∃ w10,w9.alloc (.cells #[.slice a3 n3 q3,.slice a4 n4 q4] 31)=w10:=⟨_,rfl⟩
    obtain ⟨b17,hb17⟩:∃ b,w9.heap.size=b:=⟨_,rfl⟩
    rw [hw10,hb17]
    have hb910:Below w9.heap.size w9 w10:=by rw [← hw10];exact (Below.refl _ _).alloc (Nat.le_refl _) _
    have hb810:Below w8.heap.size w8 w10:=hb9.trans (hb910.mono hb9.size)
    have hb310:Below w2.heap.size w2 w10:=R8.out.1.trans (hb810.mono R8.out.1.size)
    have k17:Has w10 b17 #[.slice a3 n3 q3,.slice a4 n4 q4] 31:=by rw [← hw10,← hb17];exact Has.new _ _ _
    have k15:=R8.out.2.1.keep hb810
    have tt:TOLD2 w10 w2.heap.size X (.slice a1 n1 q1) (.slice a2 n2 q2) (.slice a3 n3 q3) (.slice a4 n4 q4) o1 o2:=(R8.out.2.2.1.two hb9 (Nat.le_refl _) t2 R8.out.1.size).below hb910
    have cF:=z3C d w2.heap.size X _ _ _ _ o1 o2 w10 hb310.size tt HH.out
    rw [hwant] at cF
    have x0:w10.cell? ⟨b15,0,none⟩=some (.slice a1 n1 q1):=k15.cell 0
    have x1:w10.cell? ⟨b15,1,none⟩=some (.slice a2 n2 q2):=k15.cell 1
    have x2:w10.cell? ⟨b17,0,none⟩=some (.slice a3 n3 q3):=k17.cell 0
    have x3:w10.cell? ⟨b17,1,none⟩=some (.slice a4 n4 q4):=k17.cell 1
    have R10:Aside (Below w2.heap.size w2 w10∧Below w2.heap.size w2 w2):=⟨hb310,R8.out.2.2.2⟩
    clear hw10 hb17 hb910 hb810 hb310 k17 k15 tt hb9 t2 R8 hwant
    go_wp2_with fail
    refine cF.mono ?_
    rintro e w11 ⟨rfl,hb11⟩
    clear cF x0 x1 x2 x3
    have hb211:Below w2.heap.size w2 w11:=R10.out.2.trans ((R10.out.1.trans hb11).mono R10.out.2.size)
    have c7:=(CK.out w11 hb211).1
    clear hb11
    go_wp2_with fail
    refine c7.mono ?_
    rintro e w12 ⟨rfl,hb12⟩
    clear c7
    have c8:=(CK.out w12 hb12).2.1
    go_wp2_with fail
    refine c8.mono ?_
    rintro e w13 ⟨rfl,hb13⟩
    clear c8
    have c9:=(CK.out w13 hb13).2.2
    go_wp2_with fail
    refine c9.mono ?_
    rintro e w14 ⟨rfl,hb14⟩
    clear c9
    have hF:=FN.out w14 hb14
    clear CK hb12 hb13 hb14 hb211
    go_wp2
    go_ret
    exact ⟨rfl,hF⟩
  · rw [decide_eq_false hxy] at qx
    have c3:=C3.out w2 hbw2
    go_wp2_with (first
      | (refine z0p (by rfl) 24 (.tmp 10) rfl 32 5 br rfl 24 (z01 a).toArray (0,0) kr Tryz.underlying24 (z02 la) ?_)
      | (refine wpList_load_row rfl 24 (.tmp 10) rfl br rfl 24 (z01 a).toArray (0,0) _ kr Tryz.underlying24 rfl (z02 la) ?_)
      | (refine z0p (by rfl) 24 (.tmp 11) rfl 32 5 bx rfl 24 (z01 b).toArray (0,0) kx Tryz.underlying24 (z02 lb) ?_)
      | (refine wpList_load_row rfl 24 (.tmp 11) rfl bx rfl 24 (z01 b).toArray (0,0) _ kx Tryz.underlying24 rfl (z02 lb) ?_)
      | (refine z0p (by rfl) 24 (.tmp 13) rfl 32 5 by9 rfl 24 (z01 r).toArray (0,0) ky Tryz.underlying24 (z02 lr) ?_)
      | (refine wpList_load_row rfl 24 (.tmp 13) rfl by9 rfl 24 (z01 r).toArray (0,0) _ ky Tryz.underlying24 rfl (z02 lr) ?_)
      | fail)
    refine c3.mono ?_
    rintro e w3 ⟨rfl,hb23⟩
    clear c3
    have kr:=kr.keep hb23
    have kx:=kx.keep hb23
    have ky:=ky.keep hb23
    by_cases hU1:U1=0
    · subst hU1
      have hbw3:Below w.heap.size w w3:=hbw2.trans (hb23.mono hbw2.size)
      have c4:=C4.out w3 hbw3
      clear hbw3
      go_wp2_with (first
      | (refine z0p (by rfl) 24 (.tmp 10) rfl 32 5 br rfl 24 (z01 a).toArray (0,0) kr Tryz.underlying24 (z02 la) ?_)
      | (refine wpList_load_row rfl 24 (.tmp 10) rfl br rfl 24 (z01 a).toArray (0,0) _ kr Tryz.underlying24 rfl (z02 la) ?_)
      | (refine z0p (by rfl) 24 (.tmp 11) rfl 32 5 bx rfl 24 (z01 b).toArray (0,0) kx Tryz.underlying24 (z02 lb) ?_)
      | (refine wpList_load_row rfl 24 (.tmp 11) rfl bx rfl 24 (z01 b).toArray (0,0) _ kx Tryz.underlying24 rfl (z02 lb) ?_)
      | (refine z0p (by rfl) 24 (.tmp 13) rfl 32 5 by9 rfl 24 (z01 r).toArray (0,0) ky Tryz.underlying24 (z02 lr) ?_)
      | (refine wpList_load_row rfl 24 (.tmp 13) rfl by9 rfl 24 (z01 r).toArray (0,0) _ ky Tryz.underlying24 rfl (z02 lr) ?_)
      | fail)
      refine c4.mono ?_
      rintro e w4 ⟨rfl,hb34⟩
      clear c4 qx
      have kr:=kr.keep hb34
      have kx:=kx.keep hb34
      have ky:=ky.keep hb34
      have hb24:Below w2.heap.size w2 w4:=hb23.trans (hb34.mono hb23.size)
      clear hb34 hb23 hbw2
      have hb23:=hb24
      clear hb24
      by_cases hU2:U2=0
      · subst hU2
        have hwant:X.isSome=true:=HV.out.trans (decide_eq_true ⟨hxy,by first | rfl | trivial,by first | rfl | trivial⟩)
        clear hxy HV
        have c5:=C5.out w4 hb23
        clear C3 C4
        go_wp2_with (first
          | (refine wpList_load_row rfl 24 (.tmp 10) rfl br rfl 24 (z01 a).toArray (0,0) _ kr Tryz.underlying24 rfl (z02 la) ?_)
          | (refine wpList_load_row rfl 24 (.tmp 11) rfl bx rfl 24 (z01 b).toArray (0,0) _ kx Tryz.underlying24 rfl (z02 lb) ?_)
          | (refine wpList_load_row rfl 24 (.tmp 13) rfl by9 rfl 24 (z01 r).toArray (0,0) _ ky Tryz.underlying24 rfl (z02 lr) ?_)
          | fail)
        refine c5.mono ?_
        intro e w7 hcl
        obtain ⟨a1,n1,q1,a2,n2,q2,o1,rfl,t1,hb7⟩:=hcl.told
        clear hcl c5
        have kr:=kr.keep hb7
        have kx:=kx.keep hb7
        have ky:=ky.keep hb7
        go_upto_region 6 with fail
        obtain ⟨w8,hw8⟩:∃ w8,w7.alloc (.cells #[.slice a1 n1 q1,.slice a2 n2 q2] 31)=w8:=⟨_,rfl⟩
        obtain ⟨b15,hb15⟩:∃ b,w7.heap.size=b:=⟨_,rfl⟩
        rw [hw8,hb15]
        have hb78:Below w7.heap.size w7 w8:=by rw [← hw8];exact (Below.refl _ _).alloc (Nat.le_refl _) _
        have hb38:Below w4.heap.size w4 w8:=hb7.trans (hb78.mono hb7.size)
        have hb28:Below w2.heap.size w2 w8:=hb23.trans (hb38.mono hb23.size)
        have k15:Has w8 b15 #[.slice a1 n1 q1,.slice a2 n2 q2] 31:=by rw [← hw8,← hb15];exact Has.new _ _ _
        have t1':=t1.below hb78
        have kr:=kr.keep hb78
        have kx:=kx.keep hb78
        have ky:=ky.keep hb78
        have c6:=C5.out w8 hb28
        have R8:Aside (Below w4.heap.size w4 w8∧Has w8 b15 #[.slice a1 n1 q1,.slice a2 n2 q2] 31∧TOLD1 w8 w4.heap.size X (.slice a1 n1 q1) (.slice a2 n2 q2) o1∧Below w2.heap.size w2 w4):=⟨hb38,k15,t1',hb23⟩
        clear hw8 hb15 hb78 hb38 k15 t1 t1' hb28 hb7 C5 hb23
        go_wp2_with (first
          | (refine wpList_load_row rfl 24 (.tmp 10) rfl br rfl 24 (z01 a).toArray (0,0) _ kr Tryz.underlying24 rfl (z02 la) ?_)
          | (refine wpList_load_row rfl 24 (.tmp 11) rfl bx rfl 24 (z01 b).toArray (0,0) _ kx Tryz.underlying24 rfl (z02 lb) ?_)
          | (refine wpList_load_row rfl 24 (.tmp 13) rfl by9 rfl 24 (z01 r).toArray (0,0) _ ky Tryz.underlying24 rfl (z02 lr) ?_)
          | fail)
        refine c6.mono ?_
        intro e w9 hcl
        obtain ⟨a3,n3,q3,a4,n4,q4,o2,rfl,t2,hb9⟩:=hcl.told
        clear hcl c6 kr kx ky
        go_upto_region 7 with fail
        obtain ⟨w10,hw10⟩:∃ w10,w9.alloc (.cells #[.slice a3 n3 q3,.slice a4 n4 q4] 31)=w10:=⟨_,rfl⟩
        obtain ⟨b17,hb17⟩:∃ b,w9.heap.size=b:=⟨_,rfl⟩
        rw [hw10,hb17]
        have hb910:Below w9.heap.size w9 w10:=by rw [← hw10];exact (Below.refl _ _).alloc (Nat.le_refl _) _
        have hb810:Below w8.heap.size w8 w10:=hb9.trans (hb910.mono hb9.size)
        have hb310:Below w4.heap.size w4 w10:=R8.out.1.trans (hb810.mono R8.out.1.size)
        have k17:Has w10 b17 #[.slice a3 n3 q3,.slice a4 n4 q4] 31:=by rw [← hw10,← hb17];exact Has.new _ _ _
        have k15:=R8.out.2.1.keep hb810
        have tt:TOLD2 w10 w4.heap.size X (.slice a1 n1 q1) (.slice a2 n2 q2) (.slice a3 n3 q3) (.slice a4 n4 q4) o1 o2:=(R8.out.2.2.1.two hb9 (Nat.le_refl _) t2 R8.out.1.size).below hb910
        have cF:=z3C d w4.heap.size X _ _ _ _ o1 o2 w10 hb310.size tt HH.out
        rw [hwant] at cF
        have x0:w10.cell? ⟨b15,0,none⟩=some (.slice a1 n1 q1):=k15.cell 0
        have x1:w10.cell? ⟨b15,1,none⟩=some (.slice a2 n2 q2):=k15.cell 1
        have x2:w10.cell? ⟨b17,0,none⟩=some (.slice a3 n3 q3):=k17.cell 0
        have x3:w10.cell? ⟨b17,1,none⟩=some (.slice a4 n4 q4):=k17.cell 1
        have R10:Aside (Below w4.heap.size w4 w10∧Below w2.heap.size w2 w4):=⟨hb310,R8.out.2.2.2⟩
        clear hw10 hb17 hb910 hb810 hb310 k17 k15 tt hb9 t2 R8 hwant
        go_wp2_with fail
        refine cF.mono ?_
        rintro e w11 ⟨rfl,hb11⟩
        clear cF x0 x1 x2 x3
        have hb211:Below w2.heap.size w2 w11:=R10.out.2.trans ((R10.out.1.trans hb11).mono R10.out.2.size)
        have c7:=(CK.out w11 hb211).1
        clear hb11
        go_wp2_with fail
        refine c7.mono ?_
        rintro e w12 ⟨rfl,hb12⟩
        clear c7
        have c8:=(CK.out w12 hb12).2.1
        go_wp2_with fail
        refine c8.mono ?_
        rintro e w13 ⟨rfl,hb13⟩
        clear c8
        have c9:=(CK.out w13 hb13).2.2
        go_wp2_with fail
        refine c9.mono ?_
        rintro e w14 ⟨rfl,hb14⟩
        clear c9
        have hF:=FN.out w14 hb14
        clear CK hb12 hb13 hb14 hb211
        go_wp2
        go_ret
        exact ⟨rfl,hF⟩
      · have hwant:X.isSome=false:=HV.out.trans (decide_eq_false (fun h=>hU2 h.2.2))
        have hE2:(U2 == 0)=false:=beq_eq_false_iff_ne.2 hU2
        clear hxy HV hU2
        have c5:=C5.out w4 hb23
        clear C3 C4
        go_wp2_with (first
          | (refine wpList_load_row rfl 24 (.tmp 10) rfl br rfl 24 (z01 a).toArray (0,0) _ kr Tryz.underlying24 rfl (z02 la) ?_)
          | (refine wpList_load_row rfl 24 (.tmp 11) rfl bx rfl 24 (z01 b).toArray (0,0) _ kx Tryz.underlying24 rfl (z02 lb) ?_)
          | (refine wpList_load_row rfl 24 (.tmp 13) rfl by9 rfl 24 (z01 r).toArray (0,0) _ ky Tryz.underlying24 rfl (z02 lr) ?_)
          | fail)
        refine c5.mono ?_
        intro e w7 hcl
        obtain ⟨a1,n1,q1,a2,n2,q2,o1,rfl,t1,hb7⟩:=hcl.told
        clear hcl c5
        have kr:=kr.keep hb7
        have kx:=kx.keep hb7
        have ky:=ky.keep hb7
        go_upto_region 6 with fail
        obtain ⟨w8,hw8⟩:∃ w8,w7.alloc (.cells #[.slice a1 n1 q1,.slice a2 n2 q2] 31)=w8:=⟨_,rfl⟩
        obtain ⟨b15,hb15⟩:∃ b,w7.heap.size=b:=⟨_,rfl⟩
        rw [hw8,hb15]
        have hb78:Below w7.heap.size w7 w8:=by rw [← hw8];exact (Below.refl _ _).alloc (Nat.le_refl _) _
        have hb38:Below w4.heap.size w4 w8:=hb7.trans (hb78.mono hb7.size)
        have hb28:Below w2.heap.size w2 w8:=hb23.trans (hb38.mono hb23.size)
        have k15:Has w8 b15 #[.slice a1 n1 q1,.slice a2 n2 q2] 31:=by rw [← hw8,← hb15];exact Has.new _ _ _
        have t1':=t1.below hb78
        have kr:=kr.keep hb78
        have kx:=kx.keep hb78
        have ky:=ky.keep hb78
        have c6:=C5.out w8 hb28
        have R8:Aside (Below w4.heap.size w4 w8∧Has w8 b15 #[.slice a1 n1 q1,.slice a2 n2 q2] 31∧TOLD1 w8 w4.heap.size X (.slice a1 n1 q1) (.slice a2 n2 q2) o1∧Below w2.heap.size w2 w4):=⟨hb38,k15,t1',hb23⟩
        clear hw8 hb15 hb78 hb38 k15 t1 t1' hb28 hb7 C5 hb23
        go_wp2_with (first
          | (refine wpList_load_row rfl 24 (.tmp 10) rfl br rfl 24 (z01 a).toArray (0,0) _ kr Tryz.underlying24 rfl (z02 la) ?_)
          | (refine wpList_load_row rfl 24 (.tmp 11) rfl bx rfl 24 (z01 b).toArray (0,0) _ kx Tryz.underlying24 rfl (z02 lb) ?_)
          | (refine wpList_load_row rfl 24 (.tmp 13) rfl by9 rfl 24 (z01 r).toArray (0,0) _ ky Tryz.underlying24 rfl (z02 lr) ?_)
          | fail)
        refine c6.mono ?_
        intro e w9 hcl
        obtain ⟨a3,n3,q3,a4,n4,q4,o2,rfl,t2,hb9⟩:=hcl.told
        clear hcl c6 kr kx ky
        go_upto_region 7 with fail
        obtain ⟨w10,hw10⟩:∃ w10,w9.alloc (.cells #[.slice a3 n3 q3,.slice a4 n4 q4] 31)=w10:=⟨_,rfl⟩
        obtain ⟨b17,hb17⟩:∃ b,w9.heap.size=b:=⟨_,rfl⟩
        rw [hw10,hb17]
        have hb910:Below w9.heap.size w9 w10:=by rw [← hw10];exact (Below.refl _ _).alloc (Nat.le_refl _) _
        have hb810:Below w8.heap.size w8 w10:=hb9.trans (hb910.mono hb9.size)
        have hb310:Below w4.heap.size w4 w10:=R8.out.1.trans (hb810.mono R8.out.1.size)
        have k17:Has w10 b17 #[.slice a3 n3 q3,.slice a4 n4 q4] 31:=by rw [← hw10,← hb17];exact Has.new _ _ _
        have k15:=R8.out.2.1.keep hb810
        have tt:TOLD2 w10 w4.heap.size X (.slice a1 n1 q1) (.slice a2 n2 q2) (.slice a3 n3 q3) (.slice a4 n4 q4) o1 o2:=(R8.out.2.2.1.two hb9 (Nat.le_refl _) t2 R8.out.1.size).below hb910
        have cF:=z3C d w4.heap.size X _ _ _ _ o1 o2 w10 hb310.size tt HH.out
        rw [hwant] at cF
        have x0:w10.cell? ⟨b15,0,none⟩=some (.slice a1 n1 q1):=k15.cell 0
        have x1:w10.cell? ⟨b15,1,none⟩=some (.slice a2 n2 q2):=k15.cell 1
        have x2:w10.cell? ⟨b17,0,none⟩=some (.slice a3 n3 q3):=k17.cell 0
        have x3:w10.cell? ⟨b17,1,none⟩=some (.slice a4 n4 q4):=k17.cell 1
        have R10:Aside (Below w4.heap.size w4 w10∧Below w2.heap.size w2 w4):=⟨hb310,R8.out.2.2.2⟩
        clear hw10 hb17 hb910 hb810 hb310 k17 k15 tt hb9 t2 R8 hwant
        go_wp2_with fail
        refine cF.mono ?_
        rintro e w11 ⟨rfl,hb11⟩
        clear cF x0 x1 x2 x3
        have hb211:Below w2.heap.size w2 w11:=R10.out.2.trans ((R10.out.1.trans hb11).mono R10.out.2.size)
        have c7:=(CK.out w11 hb211).1
        clear hb11
        go_wp2_with fail
        refine c7.mono ?_
        rintro e w12 ⟨rfl,hb12⟩
        clear c7
        have c8:=(CK.out w12 hb12).2.1
        go_wp2_with fail
        refine c8.mono ?_
        rintro e w13 ⟨rfl,hb13⟩
        clear c8
        have c9:=(CK.out w13 hb13).2.2
        go_wp2_with fail
        refine c9.mono ?_
        rintro e w14 ⟨rfl,hb14⟩
        clear c9
        have hF:=FN.out w14 hb14
        clear CK hb12 hb13 hb14 hb211
        go_wp2
        go_ret
        exact ⟨rfl,hF⟩
    · have hwant:X.isSome=false:=HV.out.trans (decide_eq_false (fun h=>hU1 h.2.1))
      have hE1:(U1 == 0)=false:=beq_eq_false_iff_ne.2 hU1
      clear hxy HV hU1 hbw2 qx
      have c5:=C5.out w3 hb23
      clear C3 C4
      go_wp2_with (first
        | (refine wpList_load_row rfl 24 (.tmp 10) rfl br rfl 24 (z01 a).toArray (0,0) _ kr Tryz.underlying24 rfl (z02 la) ?_)
        | (refine wpList_load_row rfl 24 (.tmp 11) rfl bx rfl 24 (z01 b).toArray (0,0) _ kx Tryz.underlying24 rfl (z02 lb) ?_)
        | (refine wpList_load_row rfl 24 (.tmp 13) rfl by9 rfl 24 (z01 r).toArray (0,0) _ ky Tryz.underlying24 rfl (z02 lr) ?_)
        | fail)
      refine c5.mono ?_
      intro e w7 hcl
      obtain ⟨a1,n1,q1,a2,n2,q2,o1,rfl,t1,hb7⟩:=hcl.told
      clear hcl c5
      have kr:=kr.keep hb7
      have kx:=kx.keep hb7
      have ky:=ky.keep hb7
      go_upto_region 6 with fail
      obtain ⟨w8,hw8⟩:∃ w8,w7.alloc (.cells #[.slice a1 n1 q1,.slice a2 n2 q2] 31)=w8:=⟨_,rfl⟩
      obtain ⟨b15,hb15⟩:∃ b,w7.heap.size=b:=⟨_,rfl⟩
      rw [hw8,hb15]
      have hb78:Below w7.heap.size w7 w8:=by rw [← hw8];exact (Below.refl _ _).alloc (Nat.le_refl _) _
      have hb38:Below w3.heap.size w3 w8:=hb7.trans (hb78.mono hb7.size)
      have hb28:Below w2.heap.size w2 w8:=hb23.trans (hb38.mono hb23.size)
      have k15:Has w8 b15 #[.slice a1 n1 q1,.slice a2 n2 q2] 31:=by rw [← hw8,← hb15];exact Has.new _ _ _
      have t1':=t1.below hb78
      have kr:=kr.keep hb78
      have kx:=kx.keep hb78
      have ky:=ky.keep hb78
      have c6:=C5.out w8 hb28
      have R8:Aside (Below w3.heap.size w3 w8∧Has w8 b15 #[.slice a1 n1 q1,.slice a2 n2 q2] 31∧TOLD1 w8 w3.heap.size X (.slice a1 n1 q1) (.slice a2 n2 q2) o1∧Below w2.heap.size w2 w3):=⟨hb38,k15,t1',hb23⟩
      clear hw8 hb15 hb78 hb38 k15 t1 t1' hb28 hb7 C5 hb23
      go_wp2_with (first
        | (refine wpList_load_row rfl 24 (.tmp 10) rfl br rfl 24 (z01 a).toArray (0,0) _ kr Tryz.underlying24 rfl (z02 la) ?_)
        | (refine wpList_load_row rfl 24 (.tmp 11) rfl bx rfl 24 (z01 b).toArray (0,0) _ kx Tryz.underlying24 rfl (z02 lb) ?_)
        | (refine wpList_load_row rfl 24 (.tmp 13) rfl by9 rfl 24 (z01 r).toArray (0,0) _ ky Tryz.underlying24 rfl (z02 lr) ?_)
        | fail)
      refine c6.mono ?_
      intro e w9 hcl
      obtain ⟨a3,n3,q3,a4,n4,q4,o2,rfl,t2,hb9⟩:=hcl.told
      clear hcl c6 kr kx ky
      go_upto_region 7 with fail
      obtain ⟨w10,hw10⟩:∃ w10,w9.alloc (.cells #[.slice a3 n3 q3,.slice a4 n4 q4] 31)=w10:=⟨_,rfl⟩
      obtain ⟨b17,hb17⟩:∃ b,w9.heap.size=b:=⟨_,rfl⟩
      rw [hw10,hb17]
      have hb910:Below w9.heap.size w9 w10:=by rw [← hw10];exact (Below.refl _ _).alloc (Nat.le_refl _) _
      have hb810:Below w8.heap.size w8 w10:=hb9.trans (hb910.mono hb9.size)
      have hb310:Below w3.heap.size w3 w10:=R8.out.1.trans (hb810.mono R8.out.1.size)
      have k17:Has w10 b17 #[.slice a3 n3 q3,.slice a4 n4 q4] 31:=by rw [← hw10,← hb17];exact Has.new _ _ _
      have k15:=R8.out.2.1.keep hb810
      have tt:TOLD2 w10 w3.heap.size X (.slice a1 n1 q1) (.slice a2 n2 q2) (.slice a3 n3 q3) (.slice a4 n4 q4) o1 o2:=(R8.out.2.2.1.two hb9 (Nat.le_refl _) t2 R8.out.1.size).below hb910
      have cF:=z3C d w3.heap.size X _ _ _ _ o1 o2 w10 hb310.size tt HH.out
      rw [hwant] at cF
      have x0:w10.cell? ⟨b15,0,none⟩=some (.slice a1 n1 q1):=k15.cell 0
      have x1:w10.cell? ⟨b15,1,none⟩=some (.slice a2 n2 q2):=k15.cell 1
      have x2:w10.cell? ⟨b17,0,none⟩=some (.slice a3 n3 q3):=k17.cell 0
      have x3:w10.cell? ⟨b17,1,none⟩=some (.slice a4 n4 q4):=k17.cell 1
      have R10:Aside (Below w3.heap.size w3 w10∧Below w2.heap.size w2 w3):=⟨hb310,R8.out.2.2.2⟩
      clear hw10 hb17 hb910 hb810 hb310 k17 k15 tt hb9 t2 R8 hwant
      go_wp2_with fail
      refine cF.mono ?_
      rintro e w11 ⟨rfl,hb11⟩
      clear cF x0 x1 x2 x3
      have hb211:Below w2.heap.size w2 w11:=R10.out.2.trans ((R10.out.1.trans hb11).mono R10.out.2.size)
      have c7:=(CK.out w11 hb211).1
      clear hb11
      go_wp2_with fail
      refine c7.mono ?_
      rintro e w12 ⟨rfl,hb12⟩
      clear c7
      have c8:=(CK.out w12 hb12).2.1
      go_wp2_with fail
      refine c8.mono ?_
      rintro e w13 ⟨rfl,hb13⟩
      clear c8
      have c9:=(CK.out w13 hb13).2.2
      go_wp2_with fail
      refine c9.mono ?_
      rintro e w14 ⟨rfl,hb14⟩
      clear c9
      have hF:=FN.out w14 hb14
      clear CK hb12 hb13 hb14 hb211
      go_wp2
      go_ret
      exact ⟨rfl,hF⟩
theorem z6E (d:Int) (m:Nat) (hm:m<2 ^ 64) (a b:List Int) (ha:IsH a) (hb:IsH b) (n:Nat) (hn:n<2 ^ 64) (r:List Int) (hr:IsH r) (pa qa:Option Addr) (pn pc qn qc:Nat) (hpz:pa=none→pc=0) (hqz:qa=none→qc=0) (hpc:pn≤pc) (hqc:qn≤qc) (bp bq:List Int) (w:World) (hP:Bytes w pa pn bp) (hQ:Bytes w qa qn bq) (hT:Tabled w) (hX:HX.Tabled w) (h0:2<w.heap.size):
    Calls Tryz.prog 4 #[.int .i64 d,.int .u64 (m:Int),.agg (z01 a).toArray,.agg (z01 b).toArray,.int .u64 (n:Int),.agg (z01 r).toArray,.slice pa pn pc,.slice qa qn qc] w fun e w'=>e=.returned (.bool true)∧Below w.heap.size w w':=by
  by_cases h:pn≤9600∧qn≤9600
  · obtain ⟨TS,hTS⟩:=zc6
    exact z5Y d TS hTS m hm a b ha hb n hn r hr pa qa pn pc qn qc h.1 h.2 hpz hqz hpc hqc bp bq w hP hQ hT hX h0
  · exact z6D d m a b n r pa qa pn pc qn qc (by omega) w
end Go.Proofs.YthpdlnbbbcgemaaGreatDoor
