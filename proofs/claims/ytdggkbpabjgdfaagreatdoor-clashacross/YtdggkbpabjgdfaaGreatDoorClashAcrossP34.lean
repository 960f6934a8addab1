/- ClashAcross: part 34. -/
import Derived.Test.YtdggkbpabjgdfaaGreatDoorClashAcrossP33
set_option maxHeartbeats 8000000
namespace Go.Proofs.YtdggkbpabjgdfaaGreatDoor
open Go.RowKit
set_option maxRecDepth 100000
theorem zir {x:Nat} (hx:x<4):IntKind.u8.wrap ((201+x:Nat):Int)=((201+x:Nat):Int):=by
 rcases (show x=0\/x=1\/x=2\/x=3 by omega) with rfl | rfl | rfl | rfl <;> decide
theorem zfC (d:Int) (w:World):Calls Tryz.prog 8 #[.int .i64 d,.agg #[.slice none 0 0,.slice none 0 0],.agg #[.slice none 0 0,.slice none 0 0],.bool false,.bool false,.bool false] w fun e w'=>e=.returned (.bool true)/\Below w.heap.size w w':=by
 have hb:Below w.heap.size w ((w.alloc (.cells #[.slice none 0 0,.slice none 0 0] 31)).alloc (.cells #[.slice none 0 0,.slice none 0 0] 31)):=((Below.refl _ _).alloc (Nat.le_refl _) _).alloc (by simp) _;have R:Aside (Below w.heap.size w ((w.alloc (.cells #[.slice none 0 0,.slice none 0 0] 31)).alloc (.cells #[.slice none 0 0,.slice none 0 0] 31))):=hb;clear hb;go_enter Tryz.func8,Tryz.ntmps8;go_wp2;go_ret;exact ⟨rfl,R.out⟩
theorem zdW {x y gA gB gC gD:Nat} (h:gA≠gB/\gA≠gC/\gA≠gD/\gB≠gC/\gB≠gD/\gC≠gD) (hx:x<4) (hy:y<4) (hne:x≠y):(if x=0 then gA else if x=1 then gB else if x=2 then gC else gD)≠(if y=0 then gA else if y=1 then gB else if y=2 then gC else gD):=by
 rcases (show x=0\/x=1\/x=2\/x=3 by omega) with rfl | rfl | rfl | rfl <;> rcases (show y=0\/y=1\/y=2\/y=3 by omega) with rfl | rfl | rfl | rfl <;> simp <;> omega
theorem zfD (d:Int) (B9:Nat) (s t:List Nat) (gA cA gB cB gC cC gD cD:Nat) (w:World) (hB:B9<=w.heap.size) (oA:OWNT w B9 gA cA s) (oB:OWNT w B9 gB cB t) (oC:OWNT w B9 gC cC s) (oD:OWNT w B9 gD cD t) (hap:gA≠gB/\gA≠gC/\gA≠gD/\gB≠gC/\gB≠gD/\gC≠gD) (hH:HX.z1v d s t=true):
    Calls Tryz.prog 8 #[.int .i64 d,.agg #[.slice (some ⟨gA,0,none⟩) s.length cA,.slice (some ⟨gB,0,none⟩) t.length cB],.agg #[.slice (some ⟨gC,0,none⟩) s.length cC,.slice (some ⟨gD,0,none⟩) t.length cD],.bool true,.bool true,.bool true] w fun e w'=>e=.returned (.bool true)/\Below B9 w w':=by
  obtain ⟨n,hn⟩:∃ n,s.length=n:=⟨_,rfl⟩
  obtain ⟨m,hm⟩:∃ m,t.length=m:=⟨_,rfl⟩
  have HA:Aside (B9<=w.heap.size/\OWNT w B9 gA cA s/\OWNT w B9 gB cB t/\OWNT w B9 gC cC s/\OWNT w B9 gD cD t/\(gA≠gB/\gA≠gC/\gA≠gD/\gB≠gC/\gB≠gD/\gC≠gD)/\s.length=n/\t.length=m/\HX.z1v d s t=true):=⟨hB,oA,oB,oC,oD,hap,hn,hm,hH⟩
  have hn2:n<=200:=by rw [<-hn];exact oA.2.2.2
  have hm2:m<=200:=by rw [<-hm];exact oB.2.2.2
  rw [hn,hm];clear hB oA oB oC oD hap hn hm hH;have l1:¬ (200:Int)<(n:Int):=by omega
  have l2:¬ (200:Int)<(m:Int):=by omega
  obtain ⟨W0,hW0⟩:∃ W0,(w.alloc (.cells #[.slice (some ⟨gA,0,none⟩) n cA,.slice (some ⟨gB,0,none⟩) m cB] 31)).alloc (.cells #[.slice (some ⟨gC,0,none⟩) n cC,.slice (some ⟨gD,0,none⟩) m cD] 31)=W0:=⟨_,rfl⟩
  obtain ⟨z,hz⟩:∃ z,w.heap.size=z:=⟨_,rfl⟩
  have hb0:Below w.heap.size w W0:=by rw [<-hW0];exact ((Below.refl _ _).alloc (Nat.le_refl _) _).alloc (by simp) _
  have k7:Has W0 z #[.slice (some ⟨gA,0,none⟩) n cA,.slice (some ⟨gB,0,none⟩) m cB] 31:=by rw [<-hW0,<-hz];exact (Has.new _ _ _).alloc _
  have k8:Has W0 (z+1) #[.slice (some ⟨gC,0,none⟩) n cC,.slice (some ⟨gD,0,none⟩) m cD] 31:=by rw [<-hW0,<-hz];exact Has.at _ _ _ (by simp)
  have hcells:∀ W,Below W0.heap.size W0 W->W.cell? ⟨z,0,none⟩=some (.slice (some ⟨gA,0,none⟩) n cA)/\W.cell? ⟨z,1,none⟩=some (.slice (some ⟨gB,0,none⟩) m cB)/\W.cell? ⟨z+1,0,none⟩=some (.slice (some ⟨gC,0,none⟩) n cC)/\W.cell? ⟨z+1,1,none⟩=some (.slice (some ⟨gD,0,none⟩) m cD):=fun W h=>⟨(k7.keep h).cell 0,(k7.keep h).cell 1,(k8.keep h).cell 0,(k8.keep h).cell 1⟩
  have HC:Aside (∀ W,Below W0.heap.size W0 W->W.cell? ⟨z,0,none⟩=some (.slice (some ⟨gA,0,none⟩) n cA)/\W.cell? ⟨z,1,none⟩=some (.slice (some ⟨gB,0,none⟩) m cB)/\W.cell? ⟨z+1,0,none⟩=some (.slice (some ⟨gC,0,none⟩) n cC)/\W.cell? ⟨z+1,1,none⟩=some (.slice (some ⟨gD,0,none⟩) m cD)):=hcells;obtain ⟨x0,x1,x2,x3⟩:=hcells W0 (Below.refl _ _)
  have ch:Calls Tryz.prog 21 #[.int .i64 d,.agg #[.slice (some ⟨gA,0,none⟩) n cA,.slice (some ⟨gB,0,none⟩) m cB]] W0 fun e w'=>e=.returned (.bool true)/\Below W0.heap.size W0 w':=by
    obtain ⟨q1,q2,q3,q4,q5,q6,q7,q8,q9⟩:=HA.out;have hA:=q2.text;have hB:=q3.text;rw [q7] at hA;rw [q8] at hB;have:=HX.zb5 d (some ⟨gA,0,none⟩) n cA s (some ⟨gB,0,none⟩) m cB t W0 (hA.below hb0) (by intro h;cases h) (by omega) (hB.below hb0) (by intro h;cases h) (by omega);rw [q9] at this;exact this
  have CS:Aside (∀ W,Below w.heap.size w W->(Calls Tryz.prog 22 #[.slice (some ⟨gA,0,none⟩) n cA,.slice (some ⟨gC,0,none⟩) n cC] W fun e w'=>e=.returned (.bool true)/\Below W.heap.size W w')/\(Calls Tryz.prog 22 #[.slice (some ⟨gB,0,none⟩) m cB,.slice (some ⟨gD,0,none⟩) m cD] W fun e w'=>e=.returned (.bool true)/\Below W.heap.size W w')):=by
    intro W hW;obtain ⟨q1,q2,q3,q4,q5,q6,q7,q8,q9⟩:=HA.out;have tA:=q2.text;have tB:=q3.text;have tC:=q4.text;have tD:=q5.text;rw [q7] at tA tC;rw [q8] at tB tD;refine ⟨(HX.z1S _ _ n n cA cC s s W (tA.below hW) (tC.below hW) (by omega)).mono ?_,(HX.z1S _ _ m m cB cD t t W (tB.below hW) (tD.below hW) (by omega)).mono ?_⟩
    · rintro e w' ⟨rfl,hb', -⟩
      exact ⟨by rw [decide_eq_true rfl],hb'⟩
    · rintro e w' ⟨rfl,hb', -⟩
      exact ⟨by rw [decide_eq_true rfl],hb'⟩
  have R0:Aside (Below w.heap.size w W0):=hb0;clear k7 k8 hcells hb0;go_enter Tryz.func8,Tryz.ntmps8;go_upto_region 1 with fail
  clear hW0 hz;go_wp2_with fail
  refine ch.mono ?_;rintro e w1 ⟨rfl,hb1⟩;have hbw1:Below w.heap.size w w1:=R0.out.trans (hb1.mono R0.out.size);clear ch x0 x1 x2 x3;obtain ⟨x0,x1,x2,x3⟩:=HC.out w1 hb1;have c1:=(CS.out w1 hbw1).1;go_wp2_with fail
  refine c1.mono ?_;rintro e w2 ⟨rfl,hb2⟩;have hb02:Below W0.heap.size W0 w2:=hb1.trans (hb2.mono hb1.size);have hbw2:Below w.heap.size w w2:=hbw1.trans (hb2.mono hbw1.size);clear c1 x0 x1 x2 x3 hb1 hbw1 hb2;obtain ⟨x0,x1,x2,x3⟩:=HC.out w2 hb02;have c2:=(CS.out w2 hbw2).2;go_wp2_with fail
  refine c2.mono ?_;rintro e w3 ⟨rfl,hb3⟩;have hb03:Below W0.heap.size W0 w3:=hb02.trans (hb3.mono hb02.size);have hbw3:Below w.heap.size w w3:=hbw2.trans (hb3.mono hbw2.size);clear c2 x0 x1 x2 x3 hb02 hbw2 hb3;obtain ⟨x0,x1,x2,x3⟩:=HC.out w3 hb03;have R3:Aside (Below w.heap.size w w3):=hbw3;clear hb03 hbw3 CS HC R0;go_upto_region 9 with fail
  clear x0 x1 x2 x3
  obtain ⟨V,N,c0,hc0,hN,S⟩:∃ (V:Nat->Value) (N:Nat->Nat) (c0:Array Value),c0=#[.slice (some ⟨gA,0,none⟩) n cA,.slice (some ⟨gB,0,none⟩) m cB,.slice (some ⟨gC,0,none⟩) n cC,.slice (some ⟨gD,0,none⟩) m cD]/\Aside ((∀ x,x<4->c0[x]?=some (V x))/\(∀ x,x<4->N x<=200))/\Aside (STA w3 B9 w3.heap.size (w3.heap.size+1) c0 #[.slice none 0 0,.slice none 0 0,.slice none 0 0,.slice none 0 0] V N 0 0 ((w3.alloc (.cells c0 25)).alloc (.cells #[.slice none 0 0,.slice none 0 0,.slice none 0 0,.slice none 0 0] 62))):=by
    obtain ⟨q1,q2,q3,q4,q5,q6,q7,q8,q9⟩:=HA.out;have hs3:=R3.out.size;have l2:=q2.lt;have l3:=q3.lt;have l4:=q4.lt;have l5:=q5.lt;have q2:=q2.at (R3.out.block _ l2.2)
    have q3:=q3.at (R3.out.block _ l3.2)
    have q4:=q4.at (R3.out.block _ l4.2)
    have q5:=q5.at (R3.out.block _ l5.2)
    have r2:=q2.1;have r3:=q3.1;have r4:=q4.1;have r5:=q5.1;rw [q7] at r2 r4;rw [q8] at r3 r5
    have FF:FourT w3 B9 (fun g=>g=w3.heap.size\/g=w3.heap.size+1) (fun x=>.slice (some ⟨if x=0 then gA else if x=1 then gB else if x=2 then gC else gD,0,none⟩) (if x=0\/x=2 then n else m) (if x=0 then cA else if x=1 then cB else if x=2 then cC else cD)) (fun x=>if x=0\/x=2 then n else m) (fun x=>HX.z01 (HX.INTS (if x=0\/x=2 then s else t))):=by
      refine ⟨fun x hx=>?_,fun x y hx hy hne g e1 e2=>?_,fun x hx g e1 e2=>?_⟩
      · rcases (show x=0\/x=1\/x=2\/x=3 by omega) with rfl | rfl | rfl | rfl
        · exact r2
        · exact r3
        · exact r4
        · exact r5
      · simp only [Value.ownBlock,Option.some.injEq] at e1 e2
        exact zdW q6 hx hy hne (e1.trans e2.symm)
      · simp only [Value.ownBlock,Option.some.injEq] at e1
        have:g<w3.heap.size:=by
          rcases (show x=0\/x=1\/x=2\/x=3 by omega) with rfl | rfl | rfl | rfl <;> simp at e1 <;> omega
        omega
    refine ⟨_,_,_,rfl,⟨fun x hx=>?_,fun x hx=>?_⟩,_,(FF.alloc _).alloc _,⟨(Has.new _ _ _).alloc _,Has.at _ _ _ (by simp)⟩,(((Below.refl B9 w3).alloc (by omega) _).alloc (by simp;omega) _),⟨by omega,by omega,by omega⟩,fun z hz=>by omega,fun j hj=>by omega⟩
    · rcases (show x=0\/x=1\/x=2\/x=3 by omega) with rfl | rfl | rfl | rfl <;> rfl
    · split <;> omega
  rw [<-hc0];clear hc0;have HW:Aside (Below B9 w w3):=R3.out.mono HA.out.1;clear HA R3;generalize (w3.alloc (.cells c0 25)).alloc (.cells #[.slice none 0 0,.slice none 0 0,.slice none 0 0,.slice none 0 0] 62)=w12 at *
  obtain ⟨gb,hgb⟩:∃ gb,w3.heap.size+1=gb:=⟨_,rfl⟩
  rw [hgb] at S ⊢;clear hgb;generalize w3.heap.size=lb at *
  generalize w3=w2 at *
  obtain ⟨cg0,hcg0⟩:∃ cg0:Array Value,#[.slice none 0 0,.slice none 0 0,.slice none 0 0,.slice none 0 0]=cg0:=⟨_,rfl⟩
  rw [hcg0] at S;have HG:Aside (cg0.size=4):=by rw [<-hcg0];rfl
  clear hcg0 l1 l2 hn2 hm2;go_wp2_with fail
  go_loopg [15] 4 (fun q s15 wx=>∃ x:Nat,s15=.int .i64 (x:Int)/\Aside (x+q=4/\STA w2 B9 lb gb c0 cg0 V N x 0 wx))
  case atStart=>exact ⟨0,rfl,by omega,S.out⟩
  case round=>
    obtain ⟨x,rfl,A⟩:=hrel;clear S;cases gk with
    | zero=>
      obtain rfl:x=4:=by have:=A.out.1;omega
      go_wp2;obtain ⟨xs,S⟩:∃ xs,Aside (STB w2 B9 lb gb c0 0 wr V N xs cg0):=STB.start A.out.2 hN.out.1 hN.out.2 HG.out;clear A hN;go_loopg [17] 4 (fun q s17 wx=>∃ x:Nat,s17=.int .i64 (x:Int)/\Aside (x+q=4/\∃ V N xs cg,STB w2 B9 lb gb c0 x wx V N xs cg))
      case atStart=>exact ⟨0,rfl,by omega,_,_,_,_,S.out⟩
      case round=>
        obtain ⟨x,rfl,A⟩:=hrel;clear S;cases gk with
        | zero=>
          obtain rfl:x=4:=by have:=A.out.1;omega
          obtain ⟨V',N',xs',cg,S3⟩:∃ V N xs cg,Aside (STB w2 B9 lb gb c0 4 wr V N xs cg):=A.out.2;clear A;generalize hw14:wr=w14 at *
          clear hw14;go_wp2;go_loopg [18] 4 (fun q s18 wx=>∃ x:Nat,s18=.int .i64 (x:Int)/\Aside (x+q=4)/\wx=w14)
          case atStart=>exact ⟨0,rfl,by unfold Aside;omega,rfl⟩
          case round=>
            obtain ⟨x,rfl,A,hw⟩:=hrel;subst hw;cases gk with
            | zero=>
              obtain rfl:x=4:=by have:=A.out;omega
              have R:Aside (Below B9 w2 wr):=S3.out.bel;clear S3 A;go_wp2;go_ret;exact ⟨rfl,HW.out.trans R.out⟩
            | succ q=>
              have hx4:x<4:=by have:=A.out;omega
              have hlt:(x:Int)<4:=by omega
              have hx0:¬ (x:Int)<0:=by omega
              have e1:wrap64 ((x:Int)+1)=((x+1:Nat):Int):=by unfold wrap64;omega
              obtain ⟨a,qq,hv,hpos⟩:=z59 (S3.out.four.row x hx4);generalize hw14:wr=w14 at *
              clear hw14;have hl:w14.cell? ⟨gb,x,none⟩=some (.slice a (N' x) qq):=by rw [S3.out.hg.cell x,S3.out.new x hx4,hv]
              have HQ:Aside (V' x=.slice a (N' x) qq/\(0<N' x->∃ g,a=some ⟨g,0,none⟩)/\N' x<=202):=⟨hv,fun h=>by obtain ⟨g,h1,_⟩:=hpos h;exact ⟨g,h1⟩,S3.out.len x hx4⟩
              clear hv hpos;go_wp2;go_loopg [19] (N' x) (fun p s19x wx=>∃ y:Nat,s19x=.int .i64 (y:Int)/\Aside (y+p=N' x)/\wx=w14)
              case atStart=>exact ⟨0,rfl,by unfold Aside;omega,rfl⟩
              case round=>
                obtain ⟨y,rfl,B,hw⟩:=hrel;subst hw;cases gk with
                | zero=>
                  obtain rfl:y=N' x:=by have:=B.out;omega
                  have hylt:¬ ((N' x:Nat):Int)<((N' x:Nat):Int):=by omega
                  go_wp2;go_roundg q
                  case measure=>omega
                  case rel=>exact ⟨x+1,by first | rfl | (rw [e1]),by have:=A.out;unfold Aside;omega,rfl⟩
                | succ p=>
                  have hyN:y<N' x:=by have:=B.out;omega
                  have hylt:(y:Int)<((N' x:Nat):Int):=by omega
                  have hy0:¬ (y:Int)<0:=by omega
                  have ey:wrap64 ((y:Int)+1)=((y+1:Nat):Int):=by have:=HQ.out.2.2;unfold wrap64;omega
                  obtain ⟨g,rfl⟩:=HQ.out.2.1 (by omega)
                  have hc:wr.cell? ⟨g,y,none⟩=some (.int .u8 (201+(x:Int))):=by
                    have hr:=S3.out.four.row x hx4;rw [HQ.out.1] at hr;rw [hr.cellAt y (by omega),S3.out.cell x hx4 y hyN];rfl
                  go_wp2;go_roundg p
                  case measure=>omega
                  case rel=>exact ⟨y+1,by first | rfl | (rw [ey]),by have:=B.out;unfold Aside;omega,rfl⟩
        | succ q=>
          have hx4:x<4:=by have:=A.out.1;omega
          have hlt:(x:Int)<4:=by omega
          have hx0:¬ (x:Int)<0:=by omega
          have e1:wrap64 ((x:Int)+1)=((x+1:Nat):Int):=by unfold wrap64;omega
          obtain ⟨V',N',xs',cg,h3⟩:=A.out.2;obtain ⟨a,qq,hv, -⟩:=z59 (h3.four.row x hx4);have hl:wr.cell? ⟨lb,x,none⟩=some (.slice a (N' x) qq):=by rw [h3.hl.cell x,h3.old x (Nat.le_refl _) hx4,hv]
          have R:Aside (x+1+q=4/\STB w2 B9 lb gb c0 x wr V' N' xs' cg/\V' x=.slice a (N' x) qq/\wr.ownsRow B9 5 1 (.slice a (N' x) qq) (N' x) (xs' x)/\N' x<=200/\B9<=wr.heap.size):=⟨by have:=A.out.1;omega,h3,hv,by rw [<-hv];exact h3.four.row x hx4,h3.few x (Nat.le_refl _) hx4,Nat.le_trans h3.hB h3.bel.size⟩
          clear A h3 hv;go_wp2_with (first | (at_builtin;refine z9o _ rfl (.tmp 123) (.tmp 127) rfl B9 (.slice a (N' x) qq) (N' x) (xs' x) rfl (R.out.2.2.2.1.alloc _) wr.heap.size 1 (201+(x:Int)) rfl (by rw [World.cell?_alloc_at _ _ _ _ rfl];rfl) (by have:=R.out.2.2.2.2.1;omega) (by have:=R.out.2.2.2.2.2;simp;omega) ?_;intro g1 q1 w5 hown1 hgrow1 hg1 hlt1) | (at_builtin;refine z9o _ rfl (.tmp 128) (.tmp 132) rfl B9 (.slice (some ⟨g1,0,none⟩) (N' x+1) q1) (N' x+1) _ rfl (hown1.alloc _) w5.heap.size 1 (201+(x:Int)) rfl (by rw [World.cell?_alloc_at _ _ _ _ rfl];rfl) (by have:=R.out.2.2.2.2.1;omega) (by have:=R.out.2.2.2.2.2;have:=hgrow1.size;simp at this ⊢;omega) ?_;intro g2 q2 w6 hown2 hgrow2 hg2 hlt2;have T:Aside (Has w6 gb cg 62/\∃ V'' N'' xs'',STB w2 B9 lb gb c0 (x+1) (w6.setCell ⟨gb,x,none⟩ (.slice (some ⟨g2,0,none⟩) (N' x+1+1) q2)) V'' N'' xs'' (cg.setIfInBounds x (.slice (some ⟨g2,0,none⟩) (N' x+1+1) q2))):=STB.step R.out.2.1 hx4 _ _ hown1 (by rw [R.out.2.2.1];exact hgrow1) (by rw [R.out.2.2.1];exact hg1) hown2 hgrow2 hg2;obtain ⟨u,hu⟩:∃ u,cg[x]?=some u:=⟨_,Array.getElem?_eq_getElem (by rw [R.out.2.1.size];exact hx4)⟩;have y0:w6.cell? ⟨gb,x,none⟩=some u:=(T.out.1.cell x).trans hu;have z0:w6.frozen? ⟨gb,x,none⟩=false:=T.out.1.frozen x;clear hown1 hgrow1 hg1 hlt1 hown2 hgrow2 hg2 hlt2 hu))
          go_roundg q
          case measure=>omega
          case rel=>
            obtain ⟨V'',N'',xs'',h4⟩:=T.out.2;exact ⟨x+1,by first | rfl | (rw [e1]),R.out.1,_,_,_,_,h4⟩
    | succ q=>
      have hx4:x<4:=by have:=A.out.1;omega
      have hlt:(x:Int)<4:=by omega
      have hx0:¬ (x:Int)<0:=by omega
      have e1:wrap64 ((x:Int)+1)=((x+1:Nat):Int):=by unfold wrap64;omega
      have e2:wrap64 (201+(x:Int))=((201+x:Nat):Int):=by unfold wrap64;omega
      have e3:IntKind.u8.wrap ((201+x:Nat):Int)=((201+x:Nat):Int):=zir hx4
      obtain ⟨a,qq,hv,hpos⟩:∃ a cap,V x=.slice a (N x) cap/\(0<N x->∃ g,a=some ⟨g,0,none⟩):=by
        obtain ⟨xs,h1,_⟩:=A.out.2;obtain ⟨a,cap,h2,h3⟩:=z59 (h1.row x hx4);exact ⟨a,cap,h2,fun h=>by obtain ⟨g,h4,_⟩:=h3 h;exact ⟨g,h4⟩⟩
      generalize hwo:wr=wo at *
      clear hwo;go_wp2;go_loopg [16] (N x) (fun p s16 wx=>∃ y:Nat,s16=.int .i64 (y:Int)/\Aside (y+p=N x/\STA w2 B9 lb gb c0 cg0 V N x y wx))
      case atStart=>exact ⟨0,rfl,by omega,A.out.2⟩
      case round=>
        obtain ⟨y,rfl,B⟩:=hrel
        have hl:wr.cell? ⟨lb,x,none⟩=some (.slice a (N x) qq):=by
          obtain ⟨xs,_,h2,_⟩:=B.out.2;rw [h2.1.cell x,hN.out.1 x hx4,hv]
        have hlz:(x:Int).toNat=x:=by omega
        cases gk with
        | zero=>
          obtain rfl:y=N x:=by have:=B.out.1;omega
          have hylt:¬ ((N x:Nat):Int)<((N x:Nat):Int):=by omega
          go_wp2;go_roundg q
          case measure=>omega
          case rel=>exact ⟨x+1,by first | rfl | (rw [e1]),by have:=A.out.1;omega,B.out.2.next⟩
        | succ p=>
          have hyN:y<N x:=by have:=B.out.1;omega
          have hylt:(y:Int)<((N x:Nat):Int):=by omega
          have hy0:¬ (y:Int)<0:=by omega
          have ey:wrap64 ((y:Int)+1)=((y+1:Nat):Int):=by have:=hN.out.2 x hx4;unfold wrap64;omega
          obtain ⟨g,rfl⟩:=hpos (by omega)
          obtain ⟨u,hu,hf⟩:∃ u,wr.cell? ⟨g,y,none⟩=some u/\wr.frozen? ⟨g,y,none⟩=false:=by
            obtain ⟨xs,h1,_⟩:=B.out.2;have hr:=h1.row x hx4;rw [hv] at hr;have hlen:y<(xs x).length:=by have:=hr.1;omega
            exact ⟨_,(hr.cellAt y (by omega)).trans (List.getElem?_eq_getElem hlen),hr.frozenAt y⟩
          go_wp2;go_roundg p
          case measure=>omega
          case rel=>
            exact ⟨y+1,by first | rfl | (rw [ey]),by have:=B.out.1;omega,B.out.2.store hx4 hyN hv⟩
theorem zhk {d:Int} {s t:List Nat} (hne:s≠t) (he:HSHT d s=HSHT d t):HX.z1v d s t=true:=by
 rw [HX.z58 d hne,List.all_eq_true];intro i hi;have hi:i<32:=List.mem_range.1 hi;have e:(HSHT d s)[i]?=(HSHT d t)[i]?:=by rw [he]
 simp only [HSHT,LST,List.getElem?_map,List.getElem?_range hi,Option.map_some,Option.some.injEq] at e;exact beq_iff_eq.2 (by omega)
structure TOLD2 (w:World) (B9:Nat) (X:Option (List Nat × List Nat)) (C0 C1 D0 D1:Value) (o1 o2:Bool):Prop where
 no:X=none->C0=.slice none 0 0/\C1=.slice none 0 0/\D0=.slice none 0 0/\D1=.slice none 0 0/\o1=false/\o2=false
 yes:∀ s t,X=some (s,t)->o1=true/\o2=true/\∃ gA cA gB cB gC cC gD cD,C0=.slice (some ⟨gA,0,none⟩) s.length cA/\C1=.slice (some ⟨gB,0,none⟩) t.length cB/\D0=.slice (some ⟨gC,0,none⟩) s.length cC/\D1=.slice (some ⟨gD,0,none⟩) t.length cD/\OWNT w B9 gA cA s/\OWNT w B9 gB cB t/\OWNT w B9 gC cC s/\OWNT w B9 gD cD t/\(gA≠gB/\gA≠gC/\gA≠gD/\gB≠gC/\gB≠gD/\gC≠gD)
theorem TOLD2.below {w w':World} {B9:Nat} {X:Option (List Nat × List Nat)} {C0 C1 D0 D1:Value} {o1 o2:Bool} (h:TOLD2 w B9 X C0 C1 D0 D1 o1 o2) (hb:Below w.heap.size w w'):TOLD2 w' B9 X C0 C1 D0 D1 o1 o2:=by
 refine ⟨h.no,fun s t e=>?_⟩;obtain ⟨e1,e2,gA,cA,gB,cB,gC,cC,gD,cD,q1,q2,q3,q4,r1,r2,r3,r4,r5⟩:=h.yes s t e;exact ⟨e1,e2,gA,cA,gB,cB,gC,cC,gD,cD,q1,q2,q3,q4,r1.at (hb.block _ r1.lt.2),r2.at (hb.block _ r2.lt.2),r3.at (hb.block _ r3.lt.2),r4.at (hb.block _ r4.lt.2),r5⟩
def TOLD1 (w:World) (B9:Nat) (X:Option (List Nat × List Nat)) (C0 C1:Value) (o1:Bool):Prop:=(X=none->C0=.slice none 0 0/\C1=.slice none 0 0/\o1=false)/\∀ s t,X=some (s,t)->o1=true/\∃ gA cA gB cB,C0=.slice (some ⟨gA,0,none⟩) s.length cA/\C1=.slice (some ⟨gB,0,none⟩) t.length cB/\OWNT w B9 gA cA s/\OWNT w B9 gB cB t/\gA≠gB
theorem TOLD1.below {w w':World} {B9:Nat} {X:Option (List Nat × List Nat)} {C0 C1:Value} {o1:Bool} (h:TOLD1 w B9 X C0 C1 o1) (hb:Below w.heap.size w w'):TOLD1 w' B9 X C0 C1 o1:=by
 refine ⟨h.1,fun s t e=>?_⟩;obtain ⟨e1,gA,cA,gB,cB,q1,q2,r1,r2,r5⟩:=h.2 s t e;exact ⟨e1,gA,cA,gB,cB,q1,q2,r1.at (hb.block _ r1.lt.2),r2.at (hb.block _ r2.lt.2),r5⟩
theorem CLASHED.told {w w':World} {X:Option (List Nat × List Nat)} {e:Ending} (h:CLASHED w X e w'):∃ a1 n1 c1 a2 n2 c2 o,e=.returned (.tuple #[.agg #[.slice a1 n1 c1,.slice a2 n2 c2],.bool o])/\TOLD1 w' w.heap.size X (.slice a1 n1 c1) (.slice a2 n2 c2) o/\Below w.heap.size w w':=by
 obtain ⟨hb,h⟩:=h;cases X with
 | none=>exact ⟨_,_,_,_,_,_,_,h,⟨fun _=>⟨rfl,rfl,rfl⟩,fun s t e=>by cases e⟩,hb⟩
 | some x=>
   obtain ⟨s,t⟩:=x;obtain ⟨gA,cA,gB,cB,h1,h2,h3,h4⟩:=h;refine ⟨_,_,_,_,_,_,_,h1,⟨(fun e=>by cases e),fun s' t' e=>?_⟩,hb⟩;cases e;exact ⟨rfl,gA,cA,gB,cB,rfl,rfl,h2,h3,h4⟩
theorem TOLD1.two {w w' w2:World} {B9:Nat} {X:Option (List Nat × List Nat)} {C0 C1 D0 D1:Value} {o1 o2:Bool} (h:TOLD1 w B9 X C0 C1 o1) (hb:Below w.heap.size w w') (hs:w.heap.size<=w2.heap.size) (h2:TOLD1 w' w2.heap.size X D0 D1 o2) (h9:B9<=w.heap.size):TOLD2 w' B9 X C0 C1 D0 D1 o1 o2:=by
 refine ⟨fun e=>?_,fun s t e=>?_⟩
 ·obtain ⟨a,b,c⟩:=h.1 e
  obtain ⟨a',b',c'⟩:=h2.1 e;exact ⟨a,b,a',b',c,c'⟩
 ·obtain ⟨e1,gA,cA,gB,cB,q1,q2,r1,r2,r5⟩:=h.2 s t e
  obtain ⟨e1',gC,cC,gD,cD,q1',q2',r1',r2',r5'⟩:=h2.2 s t e;have l1:=r1.lt;have l2:=r2.lt;have l3:=r1'.lt;have l4:=r2'.lt;refine ⟨e1,e1',gA,cA,gB,cB,gC,cC,gD,cD,q1,q2,q1',q2',r1.at (hb.block _ r1.lt.2),r2.at (hb.block _ r2.lt.2),⟨z0q r1'.1 (by omega),r1'.2⟩,⟨z0q r2'.1 (by omega),r2'.2⟩,r5,by omega,by omega,by omega,by omega,r5'⟩
theorem zfE (d:Int) (B9:Nat) (X:Option (List Nat × List Nat)) (C0 C1 D0 D1:Value) (o1 o2:Bool) (w:World) (h9:B9<=w.heap.size) (h:TOLD2 w B9 X C0 C1 D0 D1 o1 o2) (hX:∀ s t,X=some (s,t)->s≠t/\HSHT d s=HSHT d t):Calls Tryz.prog 8 #[.int .i64 d,.agg #[C0,C1],.agg #[D0,D1],.bool o1,.bool o2,.bool X.isSome] w fun e w'=>e=.returned (.bool true)/\Below B9 w w':=by
 cases X with
 | none=>
   obtain ⟨rfl,rfl,rfl,rfl,rfl,rfl⟩:=h.no rfl;refine (zfC d w).mono ?_;rintro e w' ⟨rfl,hb⟩;exact ⟨rfl,hb.mono h9⟩
 | some x=>
   obtain ⟨s,t⟩:=x;obtain ⟨rfl,rfl,gA,cA,gB,cB,gC,cC,gD,cD,rfl,rfl,rfl,rfl,r1,r2,r3,r4,r5⟩:=h.yes s t rfl;exact zfD d B9 s t gA cA gB cB gC cC gD cD w h9 r1 r2 r3 r4 r5 (zhk (hX s t rfl).1 (hX s t rfl).2)
theorem z5U (a:Option Addr) (n c:Nat) (hn:n<=1000000) (hc:a=none->c=0) (l:List Int) (w:World) (hB:Bytes w a n l):Calls Tryz.prog 4 #[.slice a n c] w (z7t w n l):=by
 have HA:Aside (n<=1000000/\(a=none->c=0)/\Bytes w a n l):=⟨hn,hc,hB⟩
 clear hn hc hB;go_enter Tryz.func4,Tryz.ntmps4
 go_wp2_with (at_builtin;first
  | (refine z4j _ rfl (.tmp 3) (.tmp 4) rfl w.heap.size (.slice (some ⟨w.heap.size,0,none⟩) 0 0) 0 [] rfl (z5k w _ (Nat.le_refl _)) a n c l rfl (HA.out.2.2.below ((Below.refl _ _).alloc (Nat.le_refl _) _)) HA.out.2.1 n l (Nat.zero_add n) rfl (by have:=HA.out.1;omega) (by simp) ?_;intro a1 c1 w1 hown1 hgrow1
     have R1:Aside (w1.ownsRow w.heap.size 5 1 (.slice a1 n c1) n (z01 l)/\Below w.heap.size w w1):=⟨hown1,((Below.refl _ w).alloc (Nat.le_refl _) _).grown hgrow1 (by simp) (fun k e=>by cases e;exact Nat.le_refl _)⟩
     clear hown1 hgrow1)
  | (refine z1k _ rfl (.tmp 5) (.tmp 6) rfl w.heap.size (.slice a1 n c1) n l rfl (R1.out.1.alloc _) w1.heap.size 0 1 1 [171] rfl (z3R w1 171 (by decide) (by decide)) (by decide) (by have:=HA.out.1;omega) (by have:=R1.out.2.size;simp;omega) ?_;intro g2 c2 w2 hown2 hgrow2 hg2
     obtain ⟨f1,f2,f3⟩:=zeX hown2 HA.out.2.2.1;have hcap:(n:Int)<=(c2:Int):=by omega
     have R2:Aside (w2.ownsRow w.heap.size 5 1 (.slice (some ⟨g2,0,none⟩) n c2) n (z01 l)/\n+1<=c2/\w2.cell? ⟨g2,n,none⟩=some (.int .u8 171)/\g2<w2.heap.size/\Below w.heap.size w w2):=⟨f1,f2,f3,hg2,(R1.out.2.alloc R1.out.2.size _).grown hgrow2 (by have:=R1.out.2.size;simp;omega) (fun k e=>(R1.out.1.lt k e).1)⟩
     clear hown2 hgrow2 hg2 f1 f2 f3))
 go_ret;exact ⟨_,_,rfl,R2.out⟩
theorem zdX (g n cap:Nat) (y:Option Addr) (cy:Nat) (l:List Int) (hn:n<=100000) (hc:n+1<=cap) (w:World) (hA:Bytes w (some ⟨g,0,none⟩) n l) (hB:Bytes w y n l) (hg:g<w.heap.size) (hm:w.cell? ⟨g,n,none⟩=some (.int .u8 171)):
  Calls Tryz.prog 9 #[.slice (some ⟨g,0,none⟩) n cap,.slice y n cy] w fun e w'=>e=.returned (.bool true)/\Below w.heap.size w w':=by
 have cs:=z1S (some ⟨g,0,none⟩) y n n cap cy l l w hA hB (by omega);rw [decide_eq_true rfl] at cs;have e1:wrap64 ((n:Int)+1)=((n+1:Nat):Int):=by unfold wrap64;omega
 have k1:(n:Int)+1<=(cap:Int):=by omega
 have k2:(n:Int)<(n:Int)+1:=by omega
 have HM:Aside (g<w.heap.size/\w.cell? ⟨g,n,none⟩=some (.int .u8 171)):=⟨hg,hm⟩
 clear hn hA hB hg hm;go_enter Tryz.func9,Tryz.ntmps9;go_wp2_with fail
 refine cs.mono ?_;rintro e w1 ⟨rfl,hb1⟩;have x0:w1.cell? ⟨g,n,none⟩=some (.int .u8 171):=(hb1.cell (p:=⟨g,n,none⟩) HM.out.1).trans HM.out.2;have FN:Aside (Below w.heap.size w w1):=hb1;clear cs hb1 HM;go_wp2_with fail
 go_ret;exact ⟨rfl,FN.out⟩
theorem z45 {b:List Int} (hr:∀ x∈b,0<=x/\x<=255) (h:(DEC b).1=0):(DEC b).2.2.2.2.length=32*(DEC b).2.2.2.1/\∀ z∈(DEC b).2.2.2.2,0<=z/\z<=255:=by
 obtain ⟨E,S,I,N,t,hD⟩:∃ E S I N t,DEC b=(E,S,I,N,t):=⟨_,_,_,_,_,rfl⟩
 rw [hD] at h ⊢;dsimp only at h ⊢;subst h;obtain ⟨_,_,_,_,_,h6,_,h8⟩:=z3x hr hD;exact ⟨h6,h8⟩
theorem z9p {b:List Int} (hr:∀ x∈b,0<=x/\x<=255) (h:(DEX b).1=0):(DEX b).2.2.2.2.length=32*(DEX b).2.2.2.1/\∀ z∈(DEX b).2.2.2.2,0<=z/\z<=255:=by
 obtain ⟨E,S,I,N,t,hD⟩:∃ E S I N t,DEX b=(E,S,I,N,t):=⟨_,_,_,_,_,rfl⟩
 rw [hD] at h ⊢;dsimp only at h ⊢;subst h;obtain ⟨_,_,_,_,_,h6,_,h8⟩:=z3x hr hD;exact ⟨h6,h8⟩
end Go.Proofs.YtdggkbpabjgdfaaGreatDoor
namespace Go.Proofs.YtdggkbpabjgdfaaGreatDoor.HX
open Go.RowKit
set_option maxRecDepth 100000
def SCHK (b:Nat->Nat) (L:List Nat):Bool:=(List.range 16).all (fun t=>L.getD t 0 == z0a b (4*t)) && (List.range 48).all (fun k=>L.getD (16+k) 0 == (z19 17 19 10 (L.getD (14+k) 0)+L.getD (9+k) 0+z19 7 18 3 (L.getD (1+k) 0)+L.getD k 0) % 4294967296)
theorem zcu {b:Nat->Nat} {L:List Nat} (h:SCHK b L=true):∀ t,t<64->SCH b t=L.getD t 0:=by
 unfold SCHK at h;rw [Bool.and_eq_true,List.all_eq_true,List.all_eq_true] at h;obtain ⟨h1,h2⟩:=h;intro t;induction t using Nat.strongRecOn with
 | ind t ih=>
   intro ht;by_cases h16:t<16
   ·have:=h1 t (List.mem_range.2 h16)
    rw [zeK b t h16];exact (beq_iff_eq.1 this).symm
   ·obtain ⟨k,rfl⟩:∃ k,t=16+k:=⟨t - 16,by omega⟩
    have:=h2 k (List.mem_range.2 (by omega));rw [zgr b k (by omega),ih (14+k) (by omega) (by omega),ih (9+k) (by omega) (by omega),ih (1+k) (by omega) (by omega),ih k (by omega) (by omega)];exact (beq_iff_eq.1 this).symm
def R8 (L:List Nat) (t:Nat) (S:ST):ST:=RND (KC (t+7)) (L.getD (t+7) 0) (RND (KC (t+6)) (L.getD (t+6) 0) (RND (KC (t+5)) (L.getD (t+5) 0) (RND (KC (t+4)) (L.getD (t+4) 0) (RND (KC (t+3)) (L.getD (t+3) 0) (RND (KC (t+2)) (L.getD (t+2) 0) (RND (KC (t+1)) (L.getD (t+1) 0) (RND (KC t) (L.getD t 0) S)))))))
theorem z3h {x:Nat->Nat} {L:List Nat} (hx:∀ t,t<64->x t=L.getD t 0) (s:ST) (t:Nat) (ht:t+8<=64):RUN x s (t+8)=R8 L t (RUN x s t):=by
 unfold R8;rw [<-hx t (by omega),<-hx (t+1) (by omega),<-hx (t+2) (by omega),<-hx (t+3) (by omega),<-hx (t+4) (by omega),<-hx (t+5) (by omega),<-hx (t+6) (by omega),<-hx (t+7) (by omega)];rfl
theorem zb6 {x:Nat->Nat} {L:List Nat} (hx:∀ t,t<64->x t=L.getD t 0) {s s0 s1 s2 s3 s4 s5 s6 s7 s8:ST} (h0:s=s0) (h1:R8 L 0 s0=s1) (h2:R8 L 8 s1=s2) (h3:R8 L 16 s2=s3) (h4:R8 L 24 s3=s4) (h5:R8 L 32 s4=s5) (h6:R8 L 40 s5=s6) (h7:R8 L 48 s6=s7) (h8:R8 L 56 s7=s8):RUN x s 64=s8:=by
 rw [z3h hx s 56 (by decide),z3h hx s 48 (by decide),z3h hx s 40 (by decide),z3h hx s 32 (by decide),z3h hx s 24 (by decide),z3h hx s 16 (by decide),z3h hx s 8 (by decide),z3h hx s 0 (by decide),RUN,h0,h1,h2,h3,h4,h5,h6,h7,h8]
def z9I:Nat->Nat:=BLK ([0] ++ END 1) 0
theorem zis:RUN (SCH z9I) (STOF (z1n 1)) 64=⟨3786312650,1529455603,1134256808,4176700544,1277391920,2463922909,4124671138,3606237390⟩:=zb6 (L:=[8388608,0,0,0,0,0,0,0,0,0,0,0,0,0,0,8,8388608,327680,8272,536871234,337772552,8475648,1073741853,2164269061,2230272,337793272,1694501337,1988624393,105919010,1075328946,2958489588,494040618,4190885525,2196774829,2285820332,3305243022,1628256880,606574232,2869189168,912661284,2417538391,662210437,2456130860,1931430815,67023220,2052358436,1064287929,1067640270,2524529989,1109617150,181928543,1162918410,2922595010,279395504,2082656472,3609216951,870645911,2341257311,3664634151,1568575899,3374228186,731796513,3196917518,483982666]) (zcu (by kernel_rfl)) (s0:=⟨1778384896,0,0,0,0,0,0,0⟩) (s1:=⟨1539023587,1248333783,701311635,3734104429,2256981863,2352896890,3562625845,1211164696⟩) (s2:=⟨2928761735,2605442691,3315789819,4251448236,3279475262,3888377115,1434915651,2507752319⟩) (s3:=⟨3615058037,949404587,196844315,3978319571,2690382387,2781411491,3648039147,1695661198⟩) (s4:=⟨2472758969,2578038873,2497727348,4208130110,254028699,1322245983,922282977,3820218414⟩) (s5:=⟨4193763318,1675082568,2837945848,74614242,2915142648,3886259970,1029041734,1529017948⟩) (s6:=⟨2603131860,3335757086,2957313721,1138132233,2217216019,464556621,52348160,106843099⟩) (s7:=⟨1120555960,2235160533,20079379,4231826724,1474721306,1365152638,3934273405,1100153574⟩) (s8:=⟨3786312650,1529455603,1134256808,4176700544,1277391920,2463922909,4124671138,3606237390⟩) (by kernel_rfl) (by kernel_rfl) (by kernel_rfl) (by kernel_rfl) (by kernel_rfl) (by kernel_rfl) (by kernel_rfl) (by kernel_rfl) (by kernel_rfl)
theorem zfF:([0] ++ END 1).length / 64=1:=by rw [List.length_append,z4O];kernel_rfl
theorem zcv (d:Int):z0b d [0]=COMP d (z1n d) z9I:=by
 show z0y d ([0] ++ END 1) (([0] ++ END 1).length / 64)=_;rw [zfF];rfl
theorem zj6:OUTW (z1n 1) z9I 0=1269730250:=by
 rw [OUTW,zis];kernel_rfl
theorem zhl:z0b 1 [0] 0=75:=by
 have h:=zj6;rw [zcv,COMP];generalize OUTW (z1n 1) z9I=X at *
 rw [z0J,if_pos (by decide),z0g];show X 0 / 2 ^ 24 % 256=75;rw [h]
def z9J:Nat->Nat:=BLK ([118,4,1] ++ END 3) 0
theorem zit:RUN (SCH z9J) (STOF (z1n 1)) 64=⟨3779197602,3269671956,994181139,1236734871,3983654061,2328254292,3631449300,3517924143⟩:=zb6 (L:=[1979974016,0,0,0,0,0,0,0,0,0,0,0,0,0,0,24,1979974016,983040,2163061954,1610613702,1826171654,25426944,2969095637,4152648078,2139836496,1035532524,574477990,3493732955,1393776172,2253089637,3914451151,1725417296,1359173215,903163568,2471326224,823774989,164009750,1464648138,3434644150,3161181620,3902173805,2918484029,1875533432,914763908,275085993,573475606,361142452,1164267732,3418278767,399282407,4131314663,2765668782,2430419203,977460674,2822496742,400227469,3660752544,817825870,2666717932,990676170,41467273,1779687944,1793738367,556993083]) (zcu (by kernel_rfl)) (s0:=⟨1778384896,0,0,0,0,0,0,0⟩) (s1:=⟨3397932324,3758396031,1833458740,3944590842,3387626738,3398227911,2239248730,2476427147⟩) (s2:=⟨3484038914,3359062569,2580340481,987827534,976456098,302863753,313126024,2842306057⟩) (s3:=⟨3802695057,1740554561,1626480143,294313302,2884376435,828653678,408780192,3059077050⟩) (s4:=⟨1100797075,548049599,2898674914,3112998958,767635691,2752958182,2048642498,3670412790⟩) (s5:=⟨2827025094,1982008953,587894076,2111970979,2362179855,739801084,1232133406,1129161765⟩) (s6:=⟨1391032627,3356876198,2922337936,3720016941,3429078135,3699957301,1453229339,1139055760⟩) (s7:=⟨1956966331,3633507066,3546558560,1316678956,769230860,1797080036,1821486343,1699811024⟩) (s8:=⟨3779197602,3269671956,994181139,1236734871,3983654061,2328254292,3631449300,3517924143⟩) (by kernel_rfl) (by kernel_rfl) (by kernel_rfl) (by kernel_rfl) (by kernel_rfl) (by kernel_rfl) (by kernel_rfl) (by kernel_rfl) (by kernel_rfl)
theorem zfG:([118,4,1] ++ END 3).length / 64=1:=by rw [List.length_append,z4O];kernel_rfl
theorem zcw (d:Int):z0b d [118,4,1]=COMP d (z1n d) z9J:=by
 show z0y d ([118,4,1] ++ END 3) (([118,4,1] ++ END 3).length / 64)=_;rw [zfG];rfl
theorem zj7:OUTW (z1n 1) z9J 0=1262615202:=by
 rw [OUTW,zit];kernel_rfl
theorem zhm:z0b 1 [118,4,1] 0=75:=by
 have h:=zj7;rw [zcw,COMP];generalize OUTW (z1n 1) z9J=X at *
 rw [z0J,if_pos (by decide),z0g];show X 0 / 2 ^ 24 % 256=75;rw [h]
theorem zfH:((List.range 32).all fun i=>z0b 1 [118,4,1] i == z0b 1 [0] i)=true:=by
 rw [List.all_eq_true];intro i _;cases i with
 | zero=>rw [zhl,zhm];rfl
 | succ i=>
   rw [zcv,zcw,COMP,COMP,z0J,z0J,if_neg (by have:WID 1=1:=rfl;omega),if_neg (by have:WID 1=1:=rfl;omega)];rfl
theorem zb7 (w:World) (x:Nat) (hx:x<256):Text (w.alloc (.cells #[.int .u8 x] 5)) (some ⟨w.heap.size,0,none⟩) 1 [x]:=by
 refine ⟨rfl,fun _=>⟨w.heap.size,0,rfl,by simp,fun i hi=>?_⟩,fun y hy=>by simp at hy;omega⟩;obtain rfl:i=0:=by omega
 rw [World.cell?_alloc_at _ _ _ _ rfl];rfl
theorem zdY (w:World) (x y z:Nat) (hx:x<256) (hy:y<256) (hz:z<256):Text (w.alloc (.cells #[.int .u8 x,.int .u8 y,.int .u8 z] 5)) (some ⟨w.heap.size,0,none⟩) 3 [x,y,z]:=by
 refine ⟨rfl,fun _=>⟨w.heap.size,0,rfl,by simp,fun i hi=>?_⟩,fun u hu=>by simp at hu;omega⟩;rw [World.cell?_alloc_at _ _ _ _ rfl];have e:i=0\/i=1\/i=2:=by omega
 rcases e with rfl | rfl | rfl <;> rfl
theorem zdZ (i:Nat) (L:List Nat) (h1:i=1142->L=[118,4,1]) (h2:L≠[0]):(((List.range 32).all fun i=>z0b 1 L i == z0b 1 [0] i)=true->z1v 1 [0] L=true)/\(i=1142->((List.range 32).all fun i=>z0b 1 L i == z0b 1 [0] i)=true):=by
 refine ⟨fun h=>?_,fun h=>?_⟩
 ·rw [z58 1 (fun e=>h2 e.symm),List.all_eq_true]
  intro j hj;have:=List.all_eq_true.1 h j hj;simp only [beq_iff_eq] at this ⊢;exact this.symm
 ·rw [h1 h]
  exact zfH
theorem z9q (d:Int) (l:List Nat):∃ F:Nat->Nat,z0b d l=F:=⟨_,rfl⟩
theorem zbQ (i:Nat) (L:List Nat) (h1:i=1142->L=[118,4,1]) (h2:L≠[0]) (F1 F2:Nat->Nat) (e1:z0b 1 L=F1) (e2:z0b 1 [0]=F2):∃ r:Bool,(∀ w,(Op.equalIn 10000 24 (.agg (UARR .u8 32 F1)) (.agg (UARR .u8 32 F2))).run Tryz.prog w=.ok r w)/\Aside ((r=true->z1v 1 [0] L=true)/\(i=1142->r=true)):=by
 subst e1 e2;exact ⟨_,fun w=>z3n _ _ w,zdZ i L h1 h2⟩
theorem zfI (w:World) (hT:Tabled w):Calls Tryz.prog 10 #[] w fun e w'=>e=.returned (.bool true)/\Below w.heap.size w w':=by
 have t1:Text (w.alloc (.cells #[.int .u8 0] 5)) (some ⟨w.heap.size,0,none⟩) 1 [0]:=zb7 w 0 (by decide);have b1:Below w.heap.size w (w.alloc (.cells #[.int .u8 0] 5)):=(Below.refl _ _).alloc (Nat.le_refl _) _;have t2:Text ((w.alloc (.cells #[.int .u8 0] 5)).alloc (.cells #[.int .u8 0] 5)) (some ⟨w.heap.size,0,none⟩) 1 [0]:=t1.below ((Below.refl _ _).alloc (Nat.le_refl _) _)
 have t3:Text ((w.alloc (.cells #[.int .u8 0] 5)).alloc (.cells #[.int .u8 0] 5)) (some ⟨w.heap.size+1,0,none⟩) 1 [0]:=by
  have h:=zb7 (w.alloc (.cells #[.int .u8 0] 5)) 0 (by decide);rw [show (w.alloc (.cells #[.int .u8 0] 5)).heap.size=w.heap.size+1 by simp] at h;exact h
 have b2:Below w.heap.size w ((w.alloc (.cells #[.int .u8 0] 5)).alloc (.cells #[.int .u8 0] 5)):=b1.alloc b1.size _;have hsz:((w.alloc (.cells #[.int .u8 0] 5)).alloc (.cells #[.int .u8 0] 5)).heap.size=w.heap.size+2:=by simp
 have c1:=z9n 1 (some ⟨w.heap.size,0,none⟩) 1 1 [0] (some ⟨w.heap.size+1,0,none⟩) 1 1 [0] _ t2 (by decide) (fun x hx=>by cases hx;rw [hsz];simp) (by decide) t3 (by decide) (fun x hx=>by cases hx;rw [hsz];simp) (by decide) (hT.below b2);have z0:=z6Z 1 [0];generalize z1v 1 [0] [0]=z at *
 subst z0;have R:Aside (Tabled w/\Text ((w.alloc (.cells #[.int .u8 0] 5)).alloc (.cells #[.int .u8 0] 5)) (some ⟨w.heap.size,0,none⟩) 1 [0]/\Below w.heap.size w ((w.alloc (.cells #[.int .u8 0] 5)).alloc (.cells #[.int .u8 0] 5))/\((w.alloc (.cells #[.int .u8 0] 5)).alloc (.cells #[.int .u8 0] 5)).heap.size=w.heap.size+2):=⟨hT,t2,b2,hsz⟩
 clear t1 b1 t2 t3 b2 hsz hT;obtain ⟨F2,hF2⟩:=z9q 1 [0];go_enter Tryz.func10,Tryz.ntmps10;go_wp2_with fail
 refine c1.mono ?_;rintro e w1 ⟨rfl,hb1⟩;clear c1;have S:Aside (Tabled w/\Text w1 (some ⟨w.heap.size,0,none⟩) 1 [0]/\Below w.heap.size w w1/\w.heap.size<w1.heap.size):=⟨R.out.1,R.out.2.1.below hb1,R.out.2.2.1.trans (hb1.mono R.out.2.2.1.size),by have:=hb1.size;have:=R.out.2.2.2;omega⟩
 clear R hb1;go_wp2_with fail
 obtain ⟨N0,hN0⟩:∃ N0:Nat,N0=1141:=⟨_,rfl⟩
 go_loopg [2,3] N0 (fun r s2 s3 wx=>∃ i:Nat,i+r=1142/\1<=i/\s3=.int .i64 i/\Aside (Below w1.heap.size w1 wx))
 case atStart=>exact ⟨1,by omega,by omega,rfl,Below.refl _ _⟩
 case round=>
  obtain ⟨i,hir,hi1,rfl,A⟩:=hrel;have hlt:(i:Int)<100000:=by omega
  have e1:((i % 256:Nat):Int)=(i:Int) % 256:=by omega
  have e2:((i / 256:Nat):Int)=(i:Int) / 256:=by omega
  have tx:=zdY wr (i % 256) (i / 256) 1 (by omega) (by omega) (by decide);rw [e1,e2] at tx;have bx:Below wr.heap.size wr (wr.alloc (.cells #[.int .u8 ((i:Int) % 256),.int .u8 ((i:Int) / 256),.int .u8 ((1:Nat):Int)] 5)):=(Below.refl _ _).alloc (Nat.le_refl _) _;have sx:(wr.alloc (.cells #[.int .u8 ((i:Int) % 256),.int .u8 ((i:Int) / 256),.int .u8 ((1:Nat):Int)] 5)).heap.size=wr.heap.size+1:=by simp
  have hq1:i=1142->[i % 256,i / 256,1]=[118,4,1]:=fun h=>by subst h;rfl
  have Sw:Aside (Below w.heap.size w wr/\w.heap.size<wr.heap.size):=⟨S.out.2.2.1.trans (A.out.mono S.out.2.2.1.size),Nat.lt_of_lt_of_le S.out.2.2.2 A.out.size⟩
  have HL:Aside ((i=1142->[i % 256,i / 256,1]=[118,4,1])/\[i % 256,i / 256,1]≠[0]):=⟨hq1,by simp⟩
  generalize [i % 256,i / 256,1]=L at *
  have ca:=sum9 1 ((wr.alloc (.cells #[.int .u8 ((i:Int) % 256),.int .u8 ((i:Int) / 256),.int .u8 ((1:Nat):Int)] 5)).alloc (.cells #[.slice (some ⟨wr.heap.size,0,none⟩) 3 3] 25)) (wr.heap.size+1) (some ⟨wr.heap.size,0,none⟩) 3 3 L (Has.at _ _ _ sx.symm) (tx.below ((Below.refl _ _).alloc (Nat.le_refl _) _)) (by decide) (fun x hx=>by cases hx;simp;omega) (by decide) (S.out.1.below ((Sw.out.1.trans (bx.mono Sw.out.1.size)).alloc (by rw [sx];have:=Sw.out.2;omega) _));obtain ⟨F1,hF1⟩:=z9q 1 L;rw [hF1] at ca;obtain ⟨wa,hwa⟩:∃ wa,(wr.alloc (.cells #[.int .u8 ((i:Int) % 256),.int .u8 ((i:Int) / 256),.int .u8 ((1:Nat):Int)] 5)).alloc (.cells #[.slice (some ⟨wr.heap.size,0,none⟩) 3 3] 25)=wa:=⟨_,rfl⟩
  have ba:Below w.heap.size w wa:=by rw [<-hwa];exact (Sw.out.1.trans (bx.mono Sw.out.1.size)).alloc (by rw [sx];have:=Sw.out.2;omega) _
  have br:Below wr.heap.size wr wa:=by rw [<-hwa];exact bx.alloc (by rw [sx];omega) _
  have ta:Text wa (some ⟨wr.heap.size,0,none⟩) 3 L:=by rw [<-hwa];exact tx.below ((Below.refl _ _).alloc (Nat.le_refl _) _)
  have ga:wr.heap.size<wa.heap.size:=by rw [<-hwa];simp;omega
  clear tx bx sx hq1;go_wp2_with fail
  rw [show (Value.int IntKind.u8 1)=.int .u8 ((1:Nat):Int) from rfl];rw [hwa] at ca ⊢;refine ca.mono ?_;rintro e w2 ⟨rfl,hb2⟩;clear ca hwa;have b2:Below w.heap.size w w2:=ba.trans (hb2.mono ba.size);have cb:=sum9 1 (w2.alloc (.cells #[.slice (some ⟨w.heap.size,0,none⟩) 1 1] 25)) w2.heap.size (some ⟨w.heap.size,0,none⟩) 1 1 [0] (Has.new _ _ _) ((((S.out.2.1.below A.out).below br).below hb2).below ((Below.refl _ _).alloc (Nat.le_refl _) _)) (by decide) (fun x hx=>by cases hx;simp;have:=Sw.out.2;have:=hb2.size;omega) (by decide) (S.out.1.below (b2.alloc b2.size _));rw [hF2] at cb;have M:Aside (Below w.heap.size w w2/\Text w2 (some ⟨wr.heap.size,0,none⟩) 3 L/\wr.heap.size<w2.heap.size/\Text w2 (some ⟨w.heap.size,0,none⟩) 1 [0]/\Below wr.heap.size wr w2):=⟨b2,ta.below hb2,Nat.lt_of_lt_of_le ga hb2.size,((S.out.2.1.below A.out).below br).below hb2,br.trans (hb2.mono br.size)⟩
  clear ba br ta ga hb2 b2;go_wp2_with fail
  refine cb.mono ?_;rintro e w3 ⟨rfl,hb3⟩;clear cb
  have M3:Aside (Below w.heap.size w w3/\Text w3 (some ⟨wr.heap.size,0,none⟩) 3 L/\wr.heap.size<w3.heap.size/\Text w3 (some ⟨w.heap.size,0,none⟩) 1 [0]/\Below wr.heap.size wr w3):=by
    have hbb:Below w2.heap.size w2 w3:=((Below.refl _ _).alloc (Nat.le_refl _) _).trans (hb3.mono (by simp));obtain ⟨m1,m2,m3,m4,m5⟩:=M.out;exact ⟨m1.trans (hbb.mono m1.size),m2.below hbb,Nat.lt_of_lt_of_le m3 hbb.size,m4.below hbb,m5.trans (hbb.mono m5.size)⟩
  clear M hb3;obtain ⟨r,hq,HH⟩:=zbQ i L HL.out.1 HL.out.2 F1 F2 hF1 hF2;clear hF1;cases r with
  | true=>
    have ch:=z9n 1 (some ⟨w.heap.size,0,none⟩) 1 1 [0] (some ⟨wr.heap.size,0,none⟩) 3 3 L w3 M3.out.2.2.2.1 (by decide) (fun x hx=>by cases hx;have:=Sw.out.2;have:=M3.out.2.2.1;show w.heap.size<_;omega) (by decide) M3.out.2.1 (by decide) (fun x hx=>by cases hx;exact M3.out.2.2.1) (by decide) (S.out.1.below M3.out.1);rw [HH.out.1 rfl] at ch;clear HH;go_wp2_with fail
    refine ch.mono ?_;rintro e w4 ⟨rfl,hb4⟩;clear ch;have N:Aside (Below w.heap.size w w4):=M3.out.1.trans (hb4.mono M3.out.1.size);clear hb4;go_wp2;go_ret;exact ⟨rfl,N.out⟩
  | false=>
    have hne:i≠1142:=fun h=>by have:=HH.out.2 h;cases this
    have e3:wrap64 ((i:Int)+1)=((i+1:Nat):Int):=by unfold wrap64;omega
    have B:Aside (Below w1.heap.size w1 w3):=A.out.trans (M3.out.2.2.2.2.mono A.out.size);obtain ⟨gk',rfl⟩:∃ g,gk=g+1:=⟨gk - 1,by omega⟩
    clear HH;go_wp2;go_roundg gk'
    case measure=>omega
    exact ⟨i+1,by omega,by omega,rfl,B.out⟩
end Go.Proofs.YtdggkbpabjgdfaaGreatDoor.HX
