/- Texts of ManyVerifies, one behind the other: ManyProofCall, ManyFaceD, ManyDecode, ProofMarked, ManySlice. -/
import Derived.Test.YtlicfinmibbpdaaGreatDoorManyVerifiesP35
namespace Go.Proofs.YtlicfinmibbpdaaGreatDoor
open Go.RowKit
set_option maxRecDepth 100000
theorem STAY.high {w W:World} {rb:Nat} (h:STAY w W rb) {pb i:Nat} {v:Value} (hp:w.heap.size≤pb) (hr:rb≤w.heap.size):STAY w (W.setCell ⟨pb,i,none⟩ v) rb:=⟨fun k hk hne=>(Below.heap_setCell W ⟨pb,i,none⟩ v k (by show k≠pb;omega)).trans (h.kp k hk hne),h.bl.setCell (p:=⟨pb,i,none⟩) (by show rb≤pb;omega) _⟩
def PROVED (w:World) (rb:Nat) (A:MANS) (e:Ending) (w':World):Prop:=
  (A.1=0∧∃ a c a2 K c2,e=.returned (.agg #[.int .u64 (A.2.1:Int),.slice a A.2.2.1.length c,.slice a2 K c2])∧w'.ownsRow w.heap.size 23 1 (.slice a A.2.2.1.length c) A.2.2.1.length (z02 A.2.2.1)∧w'.ownsRow w.heap.size 38 32 (.slice a2 K c2) K (z00 A.2.2.2)∧A.2.2.2.length=32*K∧STAY w w' rb)∨(A.1≠0∧e=.panicked (z0z A.1)∧STAY w w' rb)
theorem PROVED.die {w w':World} {rb:Nat} {A:MANS} {E:Int} (hA:A=MERR E) (hE:E≠0) (hs:STAY w w' rb):PROVED w rb A (.panicked (z0z E)) w':=by
  rw [hA]
  exact .inr ⟨hE,rfl,hs⟩
theorem RDR.bytes {w0 w:World} {rb:Nat} {t:List Int} (h:RDR w0 w rb t):t.length≤1000000∧∀ x∈t,0≤x∧x≤255:=by
  obtain ⟨a,c,_,h2⟩:=h.rd
  exact ⟨h2.2.2,h2.1.2.2⟩
abbrev ZMANY:Array Value:=#[.int .u64 0,.slice none 0 0,.slice none 0 0]
theorem z8S {w:World} {B n c:Nat} {a:Option Addr} {L:List Nat} (h:w.ownsRow B 23 1 (.slice a n c) n (z02 L)) (hl:L.length=n):NUML w a L∧n≤c∧(a=none→c=0)∧∀ x,a=some x→B≤x.block∧x.block<w.heap.size∧x.spot=none:=by
  rcases h.2 with ⟨e,h0⟩ | ⟨g,cap,cur,e,hb,hg,h1,_⟩
  · cases e
    exact ⟨fun h0=>by omega,by omega,fun _=>rfl,(fun x e=>by cases e)⟩
  · cases e
    refine ⟨fun h0=>⟨g,0,rfl,(Array.getElem?_eq_some_iff.1 hg).1,fun i x hx=>?_⟩,h1,(fun e=>by cases e),fun x e=>?_⟩
    · have hi:i<L.length:=(List.getElem?_eq_some_iff.1 hx).1
      rw [Nat.zero_add,h.cellAt i (by omega),z02,List.getElem?_map,hx]
      rfl
    · cases e
      exact ⟨hb,(Array.getElem?_eq_some_iff.1 hg).1,rfl⟩
theorem z1l {w w':World} {B s n:Nat} {t:TypeId} {v:Value} {xs:List Value} (h:w.ownsRow B t s v n xs) (hk:∀ k,v.ownBlock=some k→w'.heap[k]?=w.heap[k]?):w'.ownsRow B t s v n xs:=z5b h hk
set_option maxHeartbeats 8000000 in
theorem zc9 {wS w:World} {rb:Nat} {l:List Int} (R:RDR wS w rb l) (hT:Tabled wS) (h0:0<wS.heap.size):Calls Tryz.prog 53 #[.pointer (some ⟨rb,0,none⟩)] w (PROVED w rb (MDC l)):=by
  have hmf:∀ (fn:Fn) (first cap:Array Value) (w:World),(Instr.makeFunc fn first cap).run Tryz.prog w=.ok (.func fn first cap) w:=fun _ _ _ _=>rfl
  obtain ⟨w1,e1⟩:∃ w1,w.alloc (.cells #[.pointer (some ⟨rb,0,none⟩)] 129)=w1:=⟨_,rfl⟩
  obtain ⟨w2,e2⟩:∃ w2,w1.alloc (.cells ZMANY 26)=w2:=⟨_,rfl⟩
  have s1:w1.heap.size=w.heap.size+1:=by rw [← e1];simp
  have s2:w2.heap.size=w.heap.size+2:=by rw [← e2];simp;omega
  have hb2:Below w.heap.size w w2:=by rw [← e2,← e1];exact ((Below.refl _ _).alloc (Nat.le_refl _) _).alloc (by simp) _
  have H1:Has w2 w.heap.size #[.pointer (some ⟨rb,0,none⟩)] 129:=by rw [← e2,← e1];exact (Has.new w _ _).alloc _
  have H2:Has w2 w1.heap.size ZMANY 26:=by rw [← e2];exact Has.new w1 _ _
  have R2:=R.keep hb2
  have hrb:=R.lt
  have ST2:STAY w w2 rb:=STAY.of hb2 (Nat.le_of_lt hrb)
  have x0:=H1.cell 0
  have HA:Aside (Has w2 w.heap.size #[.pointer (some ⟨rb,0,none⟩)] 129∧Has w2 w1.heap.size ZMANY 26∧STAY w w2 rb∧rb<w.heap.size∧w1.heap.size=w.heap.size+1∧w2.heap.size=w.heap.size+2∧wS.heap.size≤rb):=⟨H1,H2,ST2,hrb,s1,s2,R.lb⟩
  have HT:Aside (Tabled wS∧0<wS.heap.size):=⟨hT,h0⟩
  have HR:Aside (RDR wS w2 rb l):=R2
  clear hT h0 R R2 H1 H2 ST2 hb2 s1 s2 hrb
  cases l with
  | nil=>
    have ck:=zaF HR.out
    go_enter Tryz.func53,Tryz.ntmps53
    go_wp2_with fail
    refine ck.mono ?_
    rintro e w3 ⟨rfl,rfl⟩
    exact ⟨rfl,PROVED.die rfl (by decide) HA.out.2.2.1⟩
  | cons x t=>
    by_cases hx:x=78
    · subst hx
      have eM:MDC (78 :: t)=MD1 t:=rfl
      rw [eM]
      have ck:=zc1 HR.out
      obtain ⟨A,hA⟩:∃ A,MD1 t=A:=⟨_,rfl⟩
      rw [hA]
      have HM:Aside (MD1 t=A):=hA
      clear eM hA
      go_enter Tryz.func53,Tryz.ntmps53
      go_wp2_with fail
      refine ck.mono ?_
      rintro e w3 ⟨rfl,R3,S3⟩
      have W3:Aside (RDR wS w3 rb t∧STAY w w3 rb∧Has w3 w.heap.size #[.pointer (some ⟨rb,0,none⟩)] 129∧Has w3 w1.heap.size ZMANY 26∧w2.heap.size≤w3.heap.size):=⟨R3,HA.out.2.2.1.trans S3,S3.has HA.out.1 (by have:=HA.out;omega),S3.has HA.out.2.1 (by have:=HA.out;omega),S3.bl.size⟩
      have x3:=W3.out.2.2.1.cell 0
      clear ck R3 S3 x0 e1 e2 HR
      by_cases hl:(LNG t).2.2=0
      · obtain ⟨Z,m,q1,q2,q3,q4,cn⟩:=z3U W3.out.1 hl
        by_cases hZ:4611686018427387904<Z
        · have cs:=zc3 rb (Z:Int) w3 _ (by omega) cn
          have FN:Aside (A=MERR 30):=by show A=_;rw [← HM.out];exact z9z q4 hZ
          clear cn q1 q2 q3 q4 hl hZ
          go_wp2_with fail
          refine cs.mono ?_
          rintro e w4 ⟨rfl,R4,S4⟩
          exact ⟨rfl,PROVED.die FN.out (by decide) (W3.out.2.1.trans S4)⟩
        · have cs := zaG rb (Z:Int) w3 _ (by omega) cn
          have MZ:Aside (A=MD3 Z (IDXS Z (t.drop m))∧Z≤4611686018427387904):=⟨by rw [← HM.out];exact zc5 q4 (by omega),by omega⟩
          clear cn q1 q2 q3 q4 hl hZ HM
          generalize t.drop m=t2 at *
          go_wp2_with fail
          refine cs.mono ?_
          rintro e w4 ⟨rfl,R4,S4⟩
          have W4:Aside (RDR wS w4 rb t2∧STAY w w4 rb∧Has w4 w.heap.size #[.pointer (some ⟨rb,0,none⟩)] 129∧Has w4 w1.heap.size ZMANY 26∧w2.heap.size≤w4.heap.size):=⟨R4,W3.out.2.1.trans S4,S4.has W3.out.2.2.1 (by have:=HA.out;omega),S4.has W3.out.2.2.2.1 (by have:=HA.out;omega),Nat.le_trans W3.out.2.2.2.2 S4.bl.size⟩
          clear cs R4 S4 W3 x3
          go_upto_region 3 with fail
          obtain ⟨w5,e5⟩:∃ w5,w4.alloc (.cells #[.int .u64 (Z:Int),.slice none 0 0,.slice none 0 0] 26)=w5:=⟨_,rfl⟩
          have b5:Below w4.heap.size w4 w5:=by rw [← e5];exact (Below.refl _ _).alloc (Nat.le_refl _) _
          have M5:Has w5 w4.heap.size #[.int .u64 (Z:Int),.slice none 0 0,.slice none 0 0] 26:=by rw [← e5];exact Has.new w4 _ _
          have s5:w5.heap.size=w4.heap.size+1:=by rw [← e5];simp
          have W5:Aside (RDR wS w5 rb t2∧STAY w w5 rb∧Has w5 w.heap.size #[.pointer (some ⟨rb,0,none⟩)] 129∧Has w5 w1.heap.size ZMANY 26∧Has w5 w4.heap.size #[.int .u64 (Z:Int),.slice none 0 0,.slice none 0 0] 26∧w5.heap.size=w4.heap.size+1∧w2.heap.size≤w4.heap.size):=⟨W4.out.1.keep b5,W4.out.2.1.trans (STAY.of b5 (Nat.le_of_lt W4.out.1.lt)),W4.out.2.2.1.keep b5,W4.out.2.2.2.1.keep b5,M5,s5,W4.out.2.2.2.2⟩
          have ci:=zc4 Z MZ.out.2 W5.out.1
          have x5:=W5.out.2.2.1.cell 0
          have y5:=W5.out.2.2.2.2.1.cell 0
          have info3:(Tryz.prog.info? 26).map (·.size)=some 3:=by kernel_rfl
          clear b5 M5 s5 W4
          rw [e5]
          clear e5
          go_wp2_with fail
          obtain ⟨I,hI⟩:∃ I,IDXS Z t2=I:=⟨_,rfl⟩
          rw [hI] at ci MZ
          have hI2:=z4p (n:=Z) (t:=t2)
          have hI3:=z5j (n:=Z) W5.out.1.bytes.2
          rw [hI] at hI2 hI3
          have II:Aside ((I.1=0→(∀ x∈I.2.1,x<Z)∧RISES I.2.1)∧(I.1=0→I.2.1.length+I.2.2.length≤t2.length∧∀ x∈I.2.2,0≤x∧x≤255)∧t2.length≤1000000):=⟨hI2,hI3,W5.out.1.bytes.1⟩
          clear hI hI2 hI3
          refine ci.mono ?_
          rintro e w6 (⟨hE,a6,c6,rfl,ho6,R6,S6⟩ | ⟨hE,rfl,S6⟩)
          · have W6 : Aside (I.1=0∧w6.ownsRow w5.heap.size 23 1 (.slice a6 I.2.1.length c6) I.2.1.length (z02 I.2.1)∧RDR wS w6 rb I.2.2∧STAY w w6 rb∧Has w6 w.heap.size #[.pointer (some ⟨rb,0,none⟩)] 129∧Has w6 w1.heap.size ZMANY 26∧Has w6 w4.heap.size #[.int .u64 (Z:Int),.slice none 0 0,.slice none 0 0] 26∧w5.heap.size≤w6.heap.size):=⟨hE,ho6,R6,W5.out.2.1.trans S6,S6.has W5.out.2.2.1 (by have:=HA.out;omega),S6.has W5.out.2.2.2.1 (by have:=HA.out;omega),S6.has W5.out.2.2.2.2.1 (by have:=HA.out;have:=W5.out;omega),S6.bl.size⟩
            have x6:=W6.out.2.2.2.2.1.cell 0
            have y6:=W6.out.2.2.2.2.2.2.1.cell 1
            have f6:=W6.out.2.2.2.2.2.2.1.frozen 1
            obtain ⟨M,hM⟩:∃ M,I.2.1.length=M:=⟨_,rfl⟩
            rw [hM] at W6 ⊢
            obtain ⟨w7,e7⟩:∃ w7,w6.setCell ⟨w4.heap.size,1,none⟩ (.slice a6 M c6)=w7:=⟨_,rfl⟩
            have m7:Has w7 w4.heap.size #[.int .u64 (Z:Int),.slice a6 M c6,.slice none 0 0] 26:=by rw [← e7];exact W6.out.2.2.2.2.2.2.1.set 1 _
            have st7:STAY w6 w7 w4.heap.size:=by rw [← e7];exact STAY.set _ _ _ _
            have W7:Aside (w7.ownsRow w5.heap.size 23 1 (.slice a6 M c6) M (z02 I.2.1)∧RDR wS w7 rb I.2.2∧STAY w w7 rb∧Has w7 w.heap.size #[.pointer (some ⟨rb,0,none⟩)] 129∧Has w7 w1.heap.size ZMANY 26∧Has w7 w4.heap.size #[.int .u64 (Z:Int),.slice a6 M c6,.slice none 0 0] 26∧w5.heap.size≤w7.heap.size):=by
              refine ⟨by rw [← e7];exact ownsRow_setCell_below W6.out.2.1 (a:=⟨w4.heap.size,1,none⟩) (by show w4.heap.size<w5.heap.size;have:=W5.out;omega) _,W6.out.2.2.1.other st7 (by have:=HA.out;have:=W5.out;omega) (by have:=HA.out;have:=W5.out;omega),by rw [← e7];exact W6.out.2.2.2.1.high (by have:=HA.out;have:=W5.out;omega) (by have:=HA.out;omega),st7.has W6.out.2.2.2.2.1 (by have:=HA.out;have:=W5.out;omega),st7.has W6.out.2.2.2.2.2.1 (by have:=HA.out;have:=W5.out;omega),m7,Nat.le_trans W6.out.2.2.2.2.2.2.2 st7.bl.size⟩
            have x7:=W7.out.2.2.2.1.cell 0
            have y70:w7.cell? ⟨w4.heap.size,0,none⟩=some (.int .u64 (Z:Int)):=W7.out.2.2.2.2.2.1.cell 0
            have y71:w7.cell? ⟨w4.heap.size,1,none⟩=some (.slice a6 M c6):=W7.out.2.2.2.2.2.1.cell 1
            have HE:Aside (I.1=0):=hE
            have NL:=z8S W7.out.1 hM
            obtain ⟨bi,hbi,hbn⟩:∃ bi,(∀ x,a6=some x→x.block=bi∧x.spot=none)∧w5.heap.size≤bi:=by
              cases a6 with
              | none=>exact ⟨w5.heap.size,(fun x e=>by cases e),Nat.le_refl _⟩
              | some y=>exact ⟨y.block,(fun x e=>by cases e;exact ⟨rfl,(NL.2.2.2 y rfl).2.2⟩),(NL.2.2.2 y rfl).1⟩
            obtain ⟨L,hL⟩:∃ L,I.2.1=L:=⟨_,rfl⟩
            obtain ⟨u,hu⟩:∃ u,I.2.2=u:=⟨_,rfl⟩
            have hI2:=II.out.1 hE
            have hI3:=II.out.2.1 hE
            have hI4:=II.out.2.2
            rw [hL] at hM NL hI2 hI3
            rw [hu] at hI3
            rw [hL,hu] at W7
            have hwb:=HA.out
            have hw5:=W5.out.2.2.2.2.2
            have cn:=zdB bi w4.heap.size w.heap.size rb (fun w0 acc W=>READING wS w0 W rb w4.heap.size w.heap.size rb (Z:Int) (.slice a6 M c6) u acc) (fun w0 acc W=>z4D w0 W rb w4.heap.size rb u acc) (z0z 11)
              (fun w0 acc W W' h hb=>h.still hb) (fun w0 acc W h=>⟨h.keep,h.below.size⟩)
              (fun w0 acc p W h _=>by
                by_cases hs:u.length<32*(acc.length+1)
                · exact (zaH h p hs).mono fun e w' hh=>.inr hh
                · exact (zc8 h p (by omega) (by have:=h.le;omega)).mono fun e w' hh=>.inl hh)
              Z MZ.out.2 L a6 M c6 w7 hM (by omega) hI2.2 NL.2.1 NL.2.2.1 hbi NL.1 ⟨by omega,by omega⟩ ⟨by have:=W7.out.2.2.2.2.2.2;omega,W7.out.2.1.lt⟩ (HT.out.1.below HT.out.2 W7.out.2.1.bel)
              (fun w1' hb=>by
                refine ⟨by simp,⟨.slice none 0 0,W7.out.2.2.2.2.2.1.keep hb,⟨rfl,.inl ⟨rfl,rfl⟩⟩⟩,W7.out.2.2.2.1.keep hb,W7.out.2.1.keep hb,fun b _ _ _=>rfl,Below.refl _ _,?_,?_,?_⟩
                · have h1:=hb.size
                  have h2:=W7.out.2.2.2.2.2.2
                  have h3:=W7.out.2.1.lt
                  omega
                · omega
                · omega)
            have FA:Aside (A=MD3 Z (0,L,u)∧(∀ x∈L,x<Z)∧w4.heap.size<w5.heap.size∧w2.heap.size≤w4.heap.size∧u.length≤1000000∧L.length=M):=⟨by rw [MZ.out.1,← hE,← hL,← hu],hI2.1,by omega,by omega,by omega,hM⟩
            clear ho6 R6 S6 hE W6 m7 st7 ci x5 y5 NL hbi hbn hI2 hI3 hI4 hwb hw5 hL hu HE II MZ
            go_wp2_with fail
            refine cn.mono ?_
            rintro e w9 ⟨w8,hb8,ht⟩
            clear cn x7 y70 y71 x6 y6 f6 e7
            obtain ⟨K,hK⟩:∃ K,(z04 (TPS Z) L).length=K:=⟨_,rfl⟩
            have sz7:=W7.out.2.2.2.2.2.2
            have sz8:=hb8.size
            have hwa:=HA.out
            have hfa:=FA.out.2.2
            rcases ht with ⟨rfl,hS⟩ | ⟨pre,p,hp,rfl,hO⟩
            · rw [List.nil_append] at hS
              obtain ⟨v9,hm9,ho9⟩:=hS.row
              obtain ⟨a9,c9,rfl⟩:=z6I ho9
              have st9:STAY w w9 rb:=by
                refine ⟨fun k hk hne=>(hS.keep k (by omega) (by omega) hne).trans ((hb8.block k (by omega)).trans (W7.out.2.2.1.kp k hk hne)),(W7.out.2.2.1.bl.trans (hb8.mono (by omega))).trans hS.below⟩
              have on9:w9.ownsRow w5.heap.size 23 1 (.slice a6 M c6) M (z02 L):=z1l (z0o W7.out.1 hb8) fun k e=>hS.keep k (by have:=((z0o W7.out.1 hb8).lt k e).2;omega) (by have:=(W7.out.1.lt k e).1;omega) (by have:=(W7.out.1.lt k e).1;omega)
              have res9:Has w9 w1.heap.size ZMANY 26:=(hS.keep _ (by omega) (by omega) (by omega)).trans (W7.out.2.2.2.2.1.keep hb8)
              have W9:Aside (READING wS w8 w9 rb w4.heap.size w.heap.size rb (Z:Int) (.slice a6 M c6) u (z04 (TPS Z) L)∧Has w9 w4.heap.size #[.int .u64 (Z:Int),.slice a6 M c6,.slice a9 (z04 (TPS Z) L).length c9] 26∧w9.ownsRow w8.heap.size 38 32 (.slice a9 (z04 (TPS Z) L).length c9) (z04 (TPS Z) L).length (z00 (u.take (32*(z04 (TPS Z) L).length)))∧STAY w w9 rb∧w9.ownsRow w5.heap.size 23 1 (.slice a6 M c6) M (z02 L)∧Has w9 w1.heap.size ZMANY 26∧w.heap.size≤w8.heap.size∧w.heap.size≤w5.heap.size):=⟨hS,hm9,ho9,st9,on9,res9,by omega,by omega⟩
              rw [hK] at W9
              have x9:=hS.box.cell 0
              have ce:=zeC hS.rdr
              rw [hK] at ce
              clear hS hm9 ho9 st9 on9 res9 sz7 sz8 hwa hfa hb8
              go_wp2_with fail
              refine ce.mono ?_
              rintro e w10 ⟨(⟨ht,rfl⟩ | ⟨ht,rfl⟩),rfl⟩
              · have hlen:u.length=32*K:=by
                  have h1:=W9.out.1.le
                  rw [hK] at h1
                  have h2:=congrArg List.length ht
                  rw [List.length_drop] at h2
                  simp at h2
                  omega
                have eA:A=(0,Z,L,u):=by
                  rw [FA.out.1]
                  unfold MD3
                  rw [if_neg (by simp),hK,if_neg (by show ¬ u.length<32*K;omega),if_neg (by show ¬ 32*K<u.length;omega)]
                have FN:Aside (∀ W,W=w9.setRow w1.heap.size #[.int .u64 (Z:Int),.slice a6 M c6,.slice a9 K c9]→PROVED w rb A (.returned (.agg #[.int .u64 (Z:Int),.slice a6 M c6,.slice a9 K c9])) W):=fun W hW=>by
                  rw [eA,hW]
                  have hfa:=FA.out.2.2
                  have hwa:=HA.out
                  refine .inl ⟨rfl,a6,c6,a9,K,c9,by rw [hfa.2.2.2],?_,?_,hlen,?_⟩
                  · show World.ownsRow _ w.heap.size 23 1 (.slice a6 L.length c6) L.length (z02 L)
                    rw [hfa.2.2.2]
                    exact z0f (z1l W9.out.2.2.2.2.1 fun k e=>setRow_other _ _ _ _ (by have:=(W9.out.2.2.2.2.1.lt k e).1;omega)) W9.out.2.2.2.2.2.2.2
                  · have ho:=W9.out.2.2.1
                    rw [List.take_of_length_le (by omega)] at ho
                    exact z0f (z1l ho fun k e=>setRow_other _ _ _ _ (by have h1:=(ho.lt k e).1;have h2:=W9.out.1.lt;omega)) W9.out.2.2.2.2.2.2.1
                  · exact ⟨fun k hk hne=>(setRow_other _ _ _ _ (by omega)).trans (W9.out.2.2.2.1.kp k hk hne),z06 W9.out.2.2.2.1.bl (by omega) _⟩
                have WW:Aside (Has w9 w4.heap.size #[.int .u64 (Z:Int),.slice a6 M c6,.slice a9 K c9] 26∧Has w9 w1.heap.size ZMANY 26):=⟨W9.out.2.1,W9.out.2.2.2.2.2.1⟩
                have infoM:(Tryz.prog.info? 26).map (·.size)=some (#[Value.int .u64 (Z:Int),.slice a6 M c6,.slice a9 K c9]:Array Value).size:=info3
                have sizeM:ZMANY.size=(#[Value.int .u64 (Z:Int),.slice a6 M c6,.slice a9 K c9]:Array Value).size:=rfl
                have allM:(#[Value.int .u64 (Z:Int),.slice a6 M c6,.slice a9 K c9]:Array Value).all (·.oneCell')=true:=by simp [Value.oneCell']
                have MM:Aside ((Tryz.prog.info? 26).map (·.size)=some (#[Value.int .u64 (Z:Int),.slice a6 M c6,.slice a9 K c9]:Array Value).size∧ZMANY.size=(#[Value.int .u64 (Z:Int),.slice a6 M c6,.slice a9 K c9]:Array Value).size∧(#[Value.int .u64 (Z:Int),.slice a6 M c6,.slice a9 K c9]:Array Value).all (·.oneCell')=true):=⟨infoM,sizeM,allM⟩
                clear ce ht W9 FA HA x9 infoM sizeM allM
                go_wp2_with (first
                  | (refine wpList_load_row rfl 26 (.tmp 3) rfl w4.heap.size rfl 26 #[.int .u64 (Z:Int),.slice a6 M c6,.slice a9 K c9] (0,0) _ WW.out.1 Tryz.underlying26 rfl MM.out.1 ?_)
                  | (refine wpList_store_row rfl 26 (.tmp 2) (.tmp 22) rfl _ _ rfl rfl 26 ZMANY WW.out.2 MM.out.1 MM.out.2.1 MM.out.2.2 ?_))
                refine bodyPost_ret (v:=.agg #[.int .u64 (Z:Int),.slice a6 M c6,.slice a9 K c9]) ?_ rfl (FN.out _ rfl)
                exact results_cell_row rfl _ _ w1.heap.size 26 _ (0,0) _ rfl (WW.out.2.row _) Tryz.underlying26 rfl MM.out.1
              · have hlen:32*K<u.length:=by
                  have h1:=W9.out.1.le
                  rw [hK] at h1
                  have h2:=List.length_pos_iff.2 ht
                  rw [List.length_drop] at h2
                  omega
                have eA:A=MERR 13:=by
                  rw [FA.out.1]
                  unfold MD3
                  rw [if_neg (by simp),hK,if_neg (by show ¬ u.length<32*K;omega),if_pos (show 32*K<u.length from hlen)]
                exact ⟨rfl,PROVED.die eA (by decide) W9.out.2.2.2.1⟩
            · have hlen:u.length<32*K:=by
                have h1:=hp.length_le
                rw [List.nil_append,List.length_append,hK] at h1
                have h2:=hO.1
                simp at h1
                omega
              have eA:A=MERR 11:=by
                rw [FA.out.1]
                unfold MD3
                rw [if_neg (by simp),hK,if_pos (show u.length<32*K from hlen)]
              exact ⟨rfl,PROVED.die eA (by decide) ⟨fun k hk hne=>(hO.2.1 k (by omega) (by omega) hne).trans ((hb8.block k (by omega)).trans (W7.out.2.2.1.kp k hk hne)),(W7.out.2.2.1.bl.trans (hb8.mono (by omega))).trans hO.2.2⟩⟩
          · have FN:Aside (A=MERR I.1∧I.1≠0∧STAY w w6 rb):=⟨by rw [MZ.out.1];unfold MD3;rw [if_pos hE],hE,W5.out.2.1.trans S6⟩
            exact ⟨rfl,PROVED.die FN.out.1 FN.out.2.1 FN.out.2.2⟩
      · have cs:=zc2 W3.out.1 hl
        have FN:Aside (A=MERR (LNG t).2.2∧(LNG t).2.2≠0):=⟨by rw [← HM.out];exact z6f hl,hl⟩
        clear hl
        generalize (LNG t).2.2=E at *
        go_wp2_with fail
        refine cs.mono ?_
        rintro e w4 ⟨rfl,rfl⟩
        exact ⟨rfl,PROVED.die FN.out.1 FN.out.2 W3.out.2.1⟩
    · have eM:MDC (x :: t)=MERR 14:=if_neg hx
      rw [eM]
      have ck:=z8O HR.out hx
      clear eM hx
      go_enter Tryz.func53,Tryz.ntmps53
      go_wp2_with fail
      refine ck.mono ?_
      rintro e w3 ⟨rfl,rfl⟩
      exact ⟨rfl,PROVED.die rfl (by decide) HA.out.2.2.1⟩
end Go.Proofs.YtlicfinmibbpdaaGreatDoor

namespace Go.Proofs.YtlicfinmibbpdaaGreatDoor
open Go.RowKit
set_option maxRecDepth 100000
set_option maxHeartbeats 1000000 in
theorem zdC (b0 b1:Nat) (w:World) (G:World→Prop) (B:Int→World→Prop)
    (hdo:Calls Tryz.prog 52 #[.pointer (some ⟨b0,0,none⟩),.pointer (some ⟨b1,0,none⟩)] (w.alloc (.cells #[.int .i64 0] 29)) fun e w'=>(e=.returned (.tuple #[])∧G w')∨∃ x,e=.panicked (z0z x)∧B x w')
    (hG:∀ w',G w'→Has w' w.heap.size #[.int .i64 0] 29) (hB:∀ x w',B x w'→Has w' w.heap.size #[.int .i64 0] 29):
    Calls Tryz.prog 31 #[.func (.func 52) #[] #[.pointer (some ⟨b0,0,none⟩),.pointer (some ⟨b1,0,none⟩)]] w (z3b w G B):=by
  have hmf:∀ (fn:Fn) (first cap:Array Value) (w:World),(Instr.makeFunc fn first cap).run Tryz.prog w=.ok (.func fn first cap) w:=fun _ _ _ _=>rfl
  have HG:Aside (∀ w',G w'→Has w' w.heap.size #[.int .i64 0] 29):=hG
  have HB:Aside (∀ x w',B x w'→Has w' w.heap.size #[.int .i64 0] 29):=hB
  clear hG hB
  go_enter_defers Tryz.func31,Tryz.ntmps31
  go_wp2_with fail
  refine hdo.mono ?_
  rintro e w1 (⟨rfl,h1⟩ | ⟨x,rfl,h1⟩)
  · clear hdo
    have hh:=HG.out w1 h1
    have c0:=hh.cell 0
    have f0:=hh.frozen 0
    have G1:Aside (G w1):=h1
    clear h1
    go_wp2_with fail
    refine leaves_cons (f:=65) (args:=#[.pointer (some ⟨w.heap.size,0,none⟩)]) (by simp) (by simp [go_sem]) ?_
    refine (z2K ⟨w.heap.size,0,none⟩ _).mono ?_
    rintro e u' w'' ⟨rfl,rfl,rfl⟩
    have c1:=(hh.set 0 (.int .i64 0)).cell 0
    simp [Leaves,settle,results,Tryz.results31,go_sem,c1]
    exact .inl ⟨rfl,w1,G1.out,rfl⟩
  · have hh:=HB.out x w1 h1
    have c0:=hh.cell 0
    have f0:=hh.frozen 0
    refine leaves_cons (f:=65) (args:=#[.pointer (some ⟨w.heap.size,0,none⟩)]) (by simp) (by simp [go_sem]) ?_
    refine (z1C ⟨w.heap.size,0,none⟩ 0 x [] w1 c0 f0).mono ?_
    rintro e u' w'' ⟨rfl,rfl,rfl⟩
    have c1:=(hh.set 0 (.int .i64 x)).cell 0
    simp [Leaves,settle,results,Tryz.results31,go_sem,c1]
    exact .inr ⟨x,w1,rfl,h1,rfl⟩
end Go.Proofs.YtlicfinmibbpdaaGreatDoor

namespace Go.Proofs.YtlicfinmibbpdaaGreatDoor
open Go.RowKit
set_option maxRecDepth 100000
def DECG (w:World) (pb:Nat) (A:MANS) (w':World):Prop:=
  A.1=0∧∃ a c a2 K c2,Has w' pb #[.int .u64 (A.2.1:Int),.slice a A.2.2.1.length c,.slice a2 K c2] 26∧w'.ownsRow w.heap.size 23 1 (.slice a A.2.2.1.length c) A.2.2.1.length (z02 A.2.2.1)∧w'.ownsRow w.heap.size 38 32 (.slice a2 K c2) K (z00 A.2.2.2)∧A.2.2.2.length=32*K∧(∀ b,b<w.heap.size→b≠pb→w'.heap[b]?=w.heap[b]?)∧Below pb w w'
set_option maxHeartbeats 2000000 in
theorem z8T {wS w:World} {bb pb:Nat} {a:Option Addr} {c:Nat} {l:List Int} (hS:SRC wS a c l) (hb:Below wS.heap.size wS w) (h0:Has w bb #[.slice a l.length c] 39) (h1:Has w pb ZMANY 26) (hT:Tabled wS) (hw0:0<wS.heap.size):
    Calls Tryz.prog 52 #[.pointer (some ⟨bb,0,none⟩),.pointer (some ⟨pb,0,none⟩)] w fun e w'=>(e=.returned (.tuple #[])∧DECG w pb (MDC l) w')∨∃ x,e=.panicked (z0z x)∧(x=(MDC l).1∧x≠0∧Below w.heap.size w w'):=by
  obtain ⟨w1,e1⟩:∃ w1,w.alloc (.cells #[.slice a l.length c] 98)=w1:=⟨_,rfl⟩
  have hb1:Below w.heap.size w w1:=by rw [← e1];exact (Below.refl _ _).alloc (Nat.le_refl _) _
  have s1:w1.heap.size=w.heap.size+1:=by rw [← e1];simp
  have hsz:=hb.size
  have R1:RDR wS w1 w.heap.size l:=⟨⟨a,c,by rw [← e1];exact Has.new w _ _,hS⟩,hb.trans (hb1.mono hsz),hsz⟩
  have cp:=zc9 R1 hT hw0
  obtain ⟨A,hA⟩:∃ A,MDC l=A:=⟨_,rfl⟩
  rw [hA] at cp ⊢
  have x0:=h0.cell 0
  have hlt:=h1.lt
  have HA:Aside (Has w1 pb ZMANY 26∧Below w.heap.size w w1∧w1.heap.size=w.heap.size+1∧pb<w.heap.size):=⟨h1.keep hb1,hb1,s1,hlt⟩
  obtain ⟨n,hn⟩:∃ n,l.length=n:=⟨_,rfl⟩
  rw [hn] at e1 x0
  have info3:(Tryz.prog.info? 26).map (·.size)=some 3:=by kernel_rfl
  clear hS hb h0 h1 hT hw0 hb1 s1 hsz R1 hA hlt
  go_enter Tryz.func52,Tryz.ntmps52
  go_wp2_with fail
  refine cp.mono ?_
  rintro e w2 (⟨hE,a2,c2,a3,K,c3,rfl,o1,o2,hK,S2⟩ | ⟨hE,rfl,S2⟩)
  · have hp2:Has w2 pb ZMANY 26:=S2.has HA.out.1 (by have:=HA.out;omega)
    obtain ⟨M,hM⟩:∃ M,A.2.2.1.length=M:=⟨_,rfl⟩
    obtain ⟨Z,hZ⟩:∃ Z,A.2.1=Z:=⟨_,rfl⟩
    rw [hM] at o1 ⊢
    rw [hZ]
    have FN:Aside (DECG w pb A (w2.setRow pb #[.int .u64 (Z:Int),.slice a2 M c2,.slice a3 K c3])):=by
      have hwa:=HA.out
      refine ⟨hE,a2,c2,a3,K,c3,by rw [hZ,hM];exact hp2.row _,?_,?_,hK,fun b hb hne=>(setRow_other _ _ _ _ hne).trans ((S2.kp b (by omega) (by omega)).trans (HA.out.2.1.block b hb)),?_⟩
      · rw [hM]
        exact z0f (z1l o1 fun k e=>setRow_other _ _ _ _ (by have:=(o1.lt k e).1;omega)) (by omega)
      · exact z0f (z1l o2 fun k e=>setRow_other _ _ _ _ (by have:=(o2.lt k e).1;omega)) (by omega)
      · exact z06 ((HA.out.2.1.mono (by omega)).trans (S2.bl.mono (by omega))) (Nat.le_refl _) _
    have infoM:(Tryz.prog.info? 26).map (·.size)=some (#[Value.int .u64 (Z:Int),.slice a2 M c2,.slice a3 K c3]:Array Value).size:=info3
    have sizeM:ZMANY.size=(#[Value.int .u64 (Z:Int),.slice a2 M c2,.slice a3 K c3]:Array Value).size:=rfl
    have allM:(#[Value.int .u64 (Z:Int),.slice a2 M c2,.slice a3 K c3]:Array Value).all (·.oneCell')=true:=by simp [Value.oneCell']
    have MM:Aside ((Tryz.prog.info? 26).map (·.size)=some (#[Value.int .u64 (Z:Int),.slice a2 M c2,.slice a3 K c3]:Array Value).size∧ZMANY.size=(#[Value.int .u64 (Z:Int),.slice a2 M c2,.slice a3 K c3]:Array Value).size∧(#[Value.int .u64 (Z:Int),.slice a2 M c2,.slice a3 K c3]:Array Value).all (·.oneCell')=true∧Has w2 pb ZMANY 26):=⟨infoM,sizeM,allM,hp2⟩
    clear cp o1 o2 hK S2 hp2 HA infoM sizeM allM hE hM hZ
    go_wp2_with (first
      | (refine wpList_store_row rfl 26 (.tmp 1) (.tmp 5) rfl _ _ rfl rfl 26 ZMANY MM.out.2.2.2 MM.out.1 MM.out.2.1 MM.out.2.2.1 ?_))
    exact bodyPost_end (v:=.tuple #[]) (by simp [results,Tryz.f52]) rfl (.inl ⟨rfl,FN.out⟩)
  · exact ⟨rfl,.inr ⟨_,rfl,rfl,hE,HA.out.2.1.trans ((STAY.bl S2))⟩⟩
def DECM (w:World) (A:MANS) (e:Ending) (w':World):Prop:=
  ∃ a c a2 K c2,e=.returned (.tuple #[.agg #[.int .u64 (A.2.1:Int),.slice a A.2.2.1.length c,.slice a2 K c2],.int .i64 A.1])∧w'.ownsRow w.heap.size 23 1 (.slice a A.2.2.1.length c) A.2.2.1.length (z02 A.2.2.1)∧w'.ownsRow w.heap.size 38 32 (.slice a2 K c2) K (z00 A.2.2.2)∧A.2.2.2.length=32*K∧Below w.heap.size w w'
theorem zeE {n:Nat} {I:Int × List Nat × List Int} (h:(MD3 n I).1≠0):MD3 n I=MERR (MD3 n I).1:=by
  unfold MD3 at h ⊢
  by_cases h1:I.1≠0
  · rw [if_pos h1];rfl
  · rw [if_neg h1] at h ⊢
    by_cases h2:I.2.2.length<32*(z04 (TPS n) I.2.1).length
    · rw [if_pos h2];rfl
    · rw [if_neg h2] at h ⊢
      by_cases h3:32*(z04 (TPS n) I.2.1).length<I.2.2.length
      · rw [if_pos h3];rfl
      · rw [if_neg h3] at h
        exact absurd rfl h
theorem zeF {l:List Int} (h:(MDC l).1≠0):MDC l=MERR (MDC l).1:=by
  cases l with
  | nil=>rfl
  | cons x t=>
    have e:MDC (x :: t)=if x=78 then MD1 t else MERR 14:=rfl
    rw [e] at h ⊢
    by_cases hx:x=78
    · rw [if_pos hx] at h ⊢
      unfold MD1 at h ⊢
      by_cases h1:(LNG t).2.2≠0
      · rw [if_pos h1];rfl
      · rw [if_neg h1] at h ⊢
        by_cases h2:4611686018427387904<(LNG t).1.toNat
        · rw [if_pos h2];rfl
        · rw [if_neg h2] at h ⊢
          exact zeE h
    · rw [if_neg hx];rfl
set_option maxHeartbeats 4000000 in
theorem z6V (a:Option Addr) (n c:Nat) (l:List Int) (w:World) (hB:Bytes w a n l) (hc:n≤c) (hn:n≤1000000) (hT:Tabled w) (hw0:0<w.heap.size):Calls Tryz.prog 24 #[.slice a n c] w (DECM w (MDC l)):=by
  have hmf:∀ (fn:Fn) (first cap:Array Value) (w:World),(Instr.makeFunc fn first cap).run Tryz.prog w=.ok (.func fn first cap) w:=fun _ _ _ _=>rfl
  have hl:=hB.1
  have hS:SRC w a c l:=⟨by rw [hl];exact hB,by omega,by omega⟩
  obtain ⟨w1,e1⟩:∃ w1,w.alloc (.cells #[.slice a n c] 39)=w1:=⟨_,rfl⟩
  obtain ⟨w2,e2⟩:∃ w2,w1.alloc (.cells ZMANY 26)=w2:=⟨_,rfl⟩
  obtain ⟨w3,e3⟩:∃ w3,w2.alloc (.cells ZMANY 26)=w3:=⟨_,rfl⟩
  obtain ⟨w4,e4⟩:∃ w4,w3.alloc (.cells #[.int .i64 0] 29)=w4:=⟨_,rfl⟩
  have s1:w1.heap.size=w.heap.size+1:=by rw [← e1];simp
  have s2:w2.heap.size=w.heap.size+2:=by rw [← e2];simp;omega
  have s3:w3.heap.size=w.heap.size+3:=by rw [← e3];simp;omega
  have s4:w4.heap.size=w.heap.size+4:=by rw [← e4];simp;omega
  have hb4:Below w.heap.size w w4:=by
    rw [← e4,← e3,← e2,← e1]
    exact ((((Below.refl _ _).alloc (Nat.le_refl _) _).alloc (by simp) _).alloc (by simp;omega) _).alloc (by simp;omega) _
  have h0:Has w4 w.heap.size #[.slice a l.length c] 39:=by
    rw [← e4,← e3,← e2,← e1,hl]
    exact (((Has.new w _ _).alloc _).alloc _).alloc _
  have h1:Has w4 w1.heap.size ZMANY 26:=by
    rw [← e4,← e3,← e2]
    exact ((Has.new w1 _ _).alloc _).alloc _
  have h2:Has w4 w2.heap.size ZMANY 26:=by
    rw [← e4,← e3]
    exact (Has.new w2 _ _).alloc _
  have h3:Has w4 w3.heap.size #[.int .i64 0] 29:=by
    rw [← e4]
    exact Has.new w3 _ _
  have cd:=z8T hS hb4 h0 h2 hT hw0
  rw [← e4] at cd
  have cf:=zdC w.heap.size w2.heap.size w3 _ _ cd
    (fun w' h=>by
      obtain ⟨_,_,_,_,_,_,_,_,_,_,hk,_⟩:=h
      rw [e4] at hk
      exact (hk w3.heap.size (by omega) (by omega)).trans h3)
    (fun x w' ⟨_,_,hb⟩=>by rw [e4] at hb;exact h3.keep hb)
  rw [e4] at cf
  obtain ⟨A,hA⟩:∃ A,MDC l=A:=⟨_,rfl⟩
  have hMe:=zeF (l:=l)
  rw [hA] at cf hMe ⊢
  have FIN:Aside (∀ e w',z3b w3 (fun w'=>DECG w4 w2.heap.size A w') (fun x w'=>x=A.1∧x≠0∧Below w4.heap.size w4 w') e w'→e=.returned (.int .i64 A.1)∧∃ a c a2 K c2,Has w' w2.heap.size #[.int .u64 (A.2.1:Int),.slice a A.2.2.1.length c,.slice a2 K c2] 26∧Has w' w1.heap.size ZMANY 26∧w'.ownsRow w4.heap.size 23 1 (.slice a A.2.2.1.length c) A.2.2.1.length (z02 A.2.2.1)∧w'.ownsRow w4.heap.size 38 32 (.slice a2 K c2) K (z00 A.2.2.2)∧A.2.2.2.length=32*K∧Below w.heap.size w w'):=by
    rintro e w' (⟨rfl,wx,⟨hE,a',c',a2,K,c2,q1,q2,q3,q4,q5,q6⟩,rfl⟩ | ⟨x,wx,rfl,⟨rfl,hx,hbx⟩,rfl⟩)
    · refine ⟨by rw [hE],a',c',a2,K,c2,q1.other (by show w2.heap.size≠w3.heap.size;omega) _,?_,ownsRow_setCell_below q2 (a:=⟨w3.heap.size,0,none⟩) (by show w3.heap.size<w4.heap.size;omega) _,ownsRow_setCell_below q3 (a:=⟨w3.heap.size,0,none⟩) (by show w3.heap.size<w4.heap.size;omega) _,q4,?_⟩
      · exact Has.other (show Has wx w1.heap.size ZMANY 26 from (q5 w1.heap.size (by omega) (by omega)).trans h1) (by show w1.heap.size≠w3.heap.size;omega) _
      · exact (hb4.trans (q6.mono (by omega))).setCell (by show w.heap.size≤w3.heap.size;omega) _
    · have hP:A=MERR A.1:=hMe hx
      refine ⟨rfl,none,0,none,0,0,?_,?_,?_,?_,?_,(hb4.trans (hbx.mono hb4.size)).setCell (by show w.heap.size≤w3.heap.size;omega) _⟩
      · have e1:A.2.1=0:=by rw [hP];rfl
        have e2:A.2.2.1=[]:=by rw [hP];rfl
        rw [e1,e2]
        exact (h2.keep hbx).other (by show w2.heap.size≠w3.heap.size;omega) _
      · exact (h1.keep hbx).other (by show w1.heap.size≠w3.heap.size;omega) _
      · have e2:A.2.2.1=[]:=by rw [hP];rfl
        rw [e2]
        exact ⟨rfl,.inl ⟨rfl,rfl⟩⟩
      · have e2:A.2.2.2=[]:=by rw [hP];rfl
        rw [e2]
        exact ⟨rfl,.inl ⟨rfl,rfl⟩⟩
      · have e2:A.2.2.2=[]:=by rw [hP];rfl
        rw [e2]
        rfl
  have SZ:Aside (w1.heap.size=w.heap.size+1∧w2.heap.size=w.heap.size+2∧w4.heap.size=w.heap.size+4):=⟨s1,s2,s4⟩
  have info3:(Tryz.prog.info? 26).map (·.size)=some 3:=by kernel_rfl
  clear cd h0 h1 h2 h3 hb4 hl hS hB hc hn hT s1 s2 s3 s4 e4 hw0 hA hMe
  go_enter Tryz.func24,Tryz.ntmps24
  go_wp2_with fail
  refine cf.mono ?_
  intro e w5 hh
  obtain ⟨rfl,a',c',a2,K,c2,q1,q2,q3,q4,q5,q6⟩:=FIN.out e w5 hh
  obtain ⟨M,hM⟩:∃ M,A.2.2.1.length=M:=⟨_,rfl⟩
  obtain ⟨Z,hZ⟩:∃ Z,A.2.1=Z:=⟨_,rfl⟩
  obtain ⟨E,hE⟩:∃ E,A.1=E:=⟨_,rfl⟩
  rw [hZ,hM] at q1
  rw [hM] at q3
  have FN:Aside (DECM w A (.returned (.tuple #[.agg #[.int .u64 (Z:Int),.slice a' M c',.slice a2 K c2],.int .i64 E])) (w5.setRow w1.heap.size #[.int .u64 (Z:Int),.slice a' M c',.slice a2 K c2])):=by
    have hsz:=SZ.out
    refine ⟨a',c',a2,K,c2,by rw [hZ,hM,hE],?_,?_,q5,z06 q6 (by omega) _⟩
    · rw [hM]
      exact z0f (z1l q3 fun k e=>setRow_other _ _ _ _ (by have:=(q3.lt k e).1;omega)) (by omega)
    · exact z0f (z1l q4 fun k e=>setRow_other _ _ _ _ (by have:=(q4.lt k e).1;omega)) (by omega)
  rw [hE]
  have infoM:(Tryz.prog.info? 26).map (·.size)=some (#[Value.int .u64 (Z:Int),.slice a' M c',.slice a2 K c2]:Array Value).size:=info3
  have sizeM:ZMANY.size=(#[Value.int .u64 (Z:Int),.slice a' M c',.slice a2 K c2]:Array Value).size:=rfl
  have allM:(#[Value.int .u64 (Z:Int),.slice a' M c',.slice a2 K c2]:Array Value).all (·.oneCell')=true:=by simp [Value.oneCell']
  have MM:Aside ((Tryz.prog.info? 26).map (·.size)=some (#[Value.int .u64 (Z:Int),.slice a' M c',.slice a2 K c2]:Array Value).size∧ZMANY.size=(#[Value.int .u64 (Z:Int),.slice a' M c',.slice a2 K c2]:Array Value).size∧(#[Value.int .u64 (Z:Int),.slice a' M c',.slice a2 K c2]:Array Value).all (·.oneCell')=true∧Has w5 w2.heap.size #[.int .u64 (Z:Int),.slice a' M c',.slice a2 K c2] 26∧Has w5 w1.heap.size ZMANY 26):=⟨infoM,sizeM,allM,q1,q2⟩
  clear hh q1 q2 q3 q4 q5 q6 FIN cf SZ infoM sizeM allM hM hZ hE
  go_wp2_with (first
    | (refine wpList_load_row rfl 26 (.tmp 4) rfl w2.heap.size rfl 26 #[.int .u64 (Z:Int),.slice a' M c',.slice a2 K c2] (0,0) _ MM.out.2.2.2.1 Tryz.underlying26 rfl MM.out.1 ?_)
    | (refine wpList_store_row rfl 26 (.tmp 2) (.tmp 8) rfl _ _ rfl rfl 26 ZMANY MM.out.2.2.2.2 MM.out.1 MM.out.2.1 MM.out.2.2.1 ?_))
  refine bodyPost_ret (v:=.tuple #[.agg #[.int .u64 (Z:Int),.slice a' M c',.slice a2 K c2],.int .i64 E]) ?_ rfl FN.out
  rw [results_cell_tmp rfl]
  have hrow:=MM.out.2.2.2.2.row #[.int .u64 (Z:Int),.slice a' M c',.slice a2 K c2]
  simp [asAddr,run_loadVar_row _ w1.heap.size 26 26 _ (0,0) _ hrow Tryz.underlying26 rfl MM.out.1]
end Go.Proofs.YtlicfinmibbpdaaGreatDoor

namespace Go.Proofs.YtlicfinmibbpdaaGreatDoor
open Go.RowKit
set_option maxRecDepth 100000
theorem zca {o:Oper} {a:Act} {w w':World} {K:Act→World→Prop} {Q:Exit→Act→World→Prop} {v:Value} (hrun:(execOp a.eval o).run Tryz.prog w=.ok (.value v) w') (h:K (a.put o.dst v) w'):Oper.wp Tryz.prog o a w K Q:=by
  unfold Oper.wp
  rw [hrun]
  exact h
end Go.Proofs.YtlicfinmibbpdaaGreatDoor

namespace Go.Proofs.YtlicfinmibbpdaaGreatDoor
open Go.RowKit
set_option maxRecDepth 100000
theorem z0R {ops:Array Oper} {rest:List Oper} {o:Oper} {a:Act} {Q:Exit→Act→World→Prop} (w:World) (hgd:o.guard=none) (x y:Operand) (ho:o.op=.slice 39 x (some y) none none)
    (b off n c k:Nat) (hx:a.eval x=.slice (some ⟨b,off,none⟩) n c) (hy:a.eval y=.int .i64 (k:Int)) (hk:k≤n) (hc:n≤c)
    (h:wpList Tryz.prog ops Q rest (a.put o.dst (.slice (REST b off c k) (n - k) (c - k))) w):wpList Tryz.prog ops Q (o :: rest) a w:=by
  refine wpList_plain hgd fun K hK=>zca ?_ (hK _ _ h)
  have k1:(k:Int)≤(n:Int):=by omega
  have k2:(n:Int)≤(c:Int):=by omega
  have k4:(k:Int)≤(c:Int):=by omega
  have k5:¬ (k:Int)<0:=by omega
  unfold execOp
  rw [ho]
  by_cases hck:c=k
  · have hr:REST b off c k=some ⟨b,off,none⟩:=by simp [REST,hck]
    have hn:n=k:=by omega
    rw [hr]
    subst hck hn
    simp only [Option.map_some,Option.map_none,hx,hy]
    clear hx hy h ho hK hgd
    go_simp
  · have hr:REST b off c k=some ⟨b,off+k,none⟩:=by simp [REST,hck]
    have hc1:¬ c - k=0:=by omega
    rw [hr]
    simp only [Option.map_some,Option.map_none,hx,hy]
    clear hx hy h ho hK hgd
    go_simp
end Go.Proofs.YtlicfinmibbpdaaGreatDoor
