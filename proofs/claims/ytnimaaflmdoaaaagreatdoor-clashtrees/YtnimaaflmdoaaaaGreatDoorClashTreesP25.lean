/- ClashTrees: part 25. -/
import Derived.Test.YtnimaaflmdoaaaaGreatDoorClashTreesP15
import Derived.Test.YtnimaaflmdoaaaaGreatDoorClashTreesP20
set_option maxHeartbeats 4000000
namespace Go.Proofs.YtnimaaflmdoaaaaGreatDoor
open Go.RowKit
set_option maxRecDepth 100000
def TFL (G:Nat->List Int) (P:List Nat) (j:Nat):List Int:=(List.range j).flatMap fun i=>G (P.getD i 0)
theorem z92 (G:Nat->List Int) (P:List Nat) (j:Nat):TFL G P (j+1)=TFL G P j ++ G (P.getD j 0):=by simp [TFL,List.range_succ]
def z5a (w:World) (g:Nat) (G:Nat->List Int) (EN:Nat->Int) (P:List Nat):Prop:=
 ∀ W,Below w.heap.size w W->∀ p∈P,Calls Tryz.prog 125 #[.pointer (some ⟨g,0,none⟩),.int .u64 (p:Int)] W fun e w'=>e=.returned (.tuple #[.agg (z00 (G p)).toArray,.int .i64 (EN p)])/\Below W.heap.size W w'
def z3p (w:World) (G:Nat->List Int) (EN:Nat->Int) (P:List Nat) (e:Ending) (w':World):Prop:=
 Below w.heap.size w w'/\
 (((∀ p∈P,EN p=0)/\∃ u,e=.returned (.tuple #[u,.int .i64 0])/\w'.ownsRow w.heap.size 23 32 u P.length (z00 (TFL G P P.length)))\/
  (∃ j,j<P.length/\(∀ i,i<j->EN (P.getD i 0)=0)/\EN (P.getD j 0)≠0/\e=.returned (.tuple #[.slice none 0 0,.int .i64 (EN (P.getD j 0))])))
structure TFE (w0 w:World) (G:Nat->List Int) (EN:Nat->Int) (P:List Nat) (j:Nat) (u:Value):Prop where
 row:w.ownsRow w0.heap.size 23 32 u j (z00 (TFL G P j))
 bel:Below w0.heap.size w0 w
 ok:∀ i,i<j->EN (P.getD i 0)=0
theorem TFE.all {w w':World} {G:Nat->List Int} {EN:Nat->Int} {P:List Nat} {j:Nat} {u:Value} (h:TFE w w' G EN P j u) (hj:j=P.length):z3p w G EN P (.returned (.tuple #[u,.int .i64 0])) w':=by
 subst hj;refine ⟨h.bel,.inl ⟨fun p hp=>?_,u,rfl,h.row⟩⟩;obtain ⟨i,hi,rfl⟩:=List.getElem_of_mem hp;have:=h.ok i hi;rw [List.getD_eq_getElem?_getD,List.getElem?_eq_getElem hi] at this;exact this
theorem zdO (g gp cp:Nat) (G:Nat->List Int) (EN:Nat->Int) (P:List Nat) (w:World) (hP:P.length<=188) (h0:0<P.length) (hG:∀ p,(G p).length=32) (hN:z5a w g G EN P)
  (hpl:∀ i,i<P.length->w.cell? ⟨gp,i,none⟩=some (.int .u64 ((P.getD i 0:Nat):Int))) (hgl:gp<w.heap.size):
  Calls Tryz.prog 43 #[.iface 43 (.pointer (some ⟨g,0,none⟩)),.slice (some ⟨gp,0,none⟩) P.length cp] w (z3p w G EN P):=by
 obtain ⟨N,hNN⟩:∃ N,P.length=N:=⟨_,rfl⟩
 rw [hNN];obtain ⟨cur,hcs,hmk⟩:=z4f N (by omega) w
 have F0:Aside (TFE w (w.alloc (.cells cur 23)) G EN P 0 (.slice (some ⟨w.heap.size,0,none⟩) 0 N)):=
  ⟨World.ownsRow_made w cur N (Nat.le_refl _) (by simp only [maxLen];omega) (by rw [hcs]),(Below.refl _ _).alloc (Nat.le_refl _) _,fun i hi=>absurd hi (by omega)⟩
 have HA:Aside (P.length=N/\N<=188/\0<N/\z5a w g G EN P/\(∀ p,(G p).length=32)/\gp<w.heap.size/\∀ i,i<P.length->w.cell? ⟨gp,i,none⟩=some (.int .u64 ((P.getD i 0:Nat):Int))):=⟨hNN,by omega,by omega,hN,hG,hgl,hpl⟩
 clear hP h0 hN hG hpl hgl hNN hcs;go_enter Tryz.func43,Tryz.ntmps43;go_wp2;clear hmk;go_loopg [6,16] N (fun q s6 s16 wx=>∃ (j:Nat),s16=.int .i64 (j:Int)/\Aside (j+q=N/\TFE w wx G EN P j s6))
 case atStart=>exact ⟨0,rfl,by omega,F0.out⟩
 case round=>
  obtain ⟨j,rfl,A⟩:=hrel;obtain ⟨hj,F⟩:=A.out;obtain ⟨a1,a2,a3,a4,a5,a6,a7⟩:=HA.out;cases gk with
  | zero=>
    obtain rfl:j=N:=by omega
    have hlt:¬ (j:Int)<(j:Int):=by omega
    have R1:Aside (z3p w G EN P (.returned (.tuple #[u6,.int .i64 0])) wr):=TFE.all F a1.symm;clear hj F a1 a2 a3 a4 a5 a6 a7 A HA F0;go_wp2;go_ret2;exact R1.out
  | succ q=>
    have hlt:(j:Int)<(N:Int):=by omega
    have hjP:j<P.length:=by omega
    have hc:wr.cell? ⟨gp,j,none⟩=some (.int .u64 ((P.getD j 0:Nat):Int)):=by
     rw [<-a7 j hjP];exact F.bel.cell (p:=⟨gp,j,none⟩) a6
    have hmem:P.getD j 0∈P:=by
     rw [List.getD_eq_getElem?_getD,List.getElem?_eq_getElem hjP];exact List.getElem_mem _
    have cn:=a4 wr F.bel _ hmem;have hl32:=a5 (P.getD j 0);have hnd:=z92 G P j;by_cases hE:EN (P.getD j 0)=0
    ·have K:Aside (j+1+q=N/\j<=188/\TFE w wr G EN P j u6/\EN (P.getD j 0)=0/\TFL G P (j+1)=TFL G P j ++ G (P.getD j 0)/\w.heap.size<=wr.heap.size):=⟨by omega,by omega,F,hE,hnd,F.bel.size⟩
     have E1:Aside (wrap64 ((j:Int)+1)=((j+1:Nat):Int)):=by show wrap64 ((j:Int)+1)=((j+1:Nat):Int);unfold wrap64;omega
     rw [hE] at cn;clear hj F a1 a2 a3 a4 a5 a6 a7 A F0 hjP hnd hmem hE;generalize hH:G (P.getD j 0)=H at *
     clear hH;obtain ⟨y,hy⟩:∃ y,P.getD j 0=y:=⟨_,rfl⟩
     rw [hy] at hc cn;clear hy;go_wp2_with fail
     refine cn.mono ?_;rintro e w1 ⟨rfl,hb1⟩;clear cn hc
     have T:Aside (w1.ownsRow w.heap.size 23 32 u6 j (z00 (TFL G P j))/\w.heap.size<=w1.heap.size/\Below w.heap.size w w1):=
      ⟨z1Q K.out.2.2.1.row hb1,Nat.le_trans K.out.2.2.2.2.2 hb1.size,K.out.2.2.1.bel.trans (hb1.mono K.out.2.2.2.2.2)⟩
     clear hb1
     go_wp2_with (first
      | (refine wpList_store_row rfl 23 (.tmp 9) (.tmp 24) rfl _ _ rfl rfl 23 _ (Has.new w1 _ _) (z07 hl32) (by simp [z00,hl32]) (z0p H) ?_;rw [World.setRow_alloc_new])
      | (refine wpList_load_row rfl 23 (.tmp 9) rfl w1.heap.size rfl 23 (z00 H).toArray (0,0) _ (Has.new w1 _ _) Tryz.underlying23 rfl (z07 hl32) ?_)
      | (refine z4O _ rfl 42 23 (.tmp 30) rfl (z00 H).toArray rfl 32 _ _ Tryz.underlying42 z4e (by simp [z00,hl32]) rfl (by decide) (by decide) ?_)
      | (at_builtin;refine z8s _ rfl (.tmp 29) (.tmp 31) rfl w.heap.size u6 j (z00 (TFL G P j)) rfl ((T.out.1.alloc _).alloc _) _ 1 H hl32 rfl (Has.new _ _ _) (by have:=K.out.2.1;omega) (by have:=T.out.2.1;simp;omega) ?_;intro g2 cap w2 hown hgrow hat hg))
     have Z:Aside (j+1+q=N/\TFE w w2 G EN P (j+1) (.slice (some ⟨g2,0,none⟩) (j+1) cap)):=by
      obtain ⟨t1,t2,t3⟩:=T.out;obtain ⟨k1,k2,k3,k4,k5,k6⟩:=K.out;have hb1:Below w1.heap.size w1 ((w1.alloc (.cells (z00 H).toArray 23)).alloc (.cells (z00 H).toArray 23)):=((Below.refl _ _).alloc (Nat.le_refl _) _).alloc (by simp) _;refine ⟨k1,⟨by rw [k5,z1z];exact hown,(t3.trans (hb1.mono t2)).grown hgrow (by have:=hb1.size;omega) (fun k e=>(t1.lt k e).1),fun i hi=>?_⟩⟩;rcases Nat.lt_or_ge i j with h | h
      ·exact k3.ok i h
      ·obtain rfl:i=j:=by omega
       exact k4
     clear hown hgrow hat hg K T hl32;have e1:=E1.out;go_wp2;go_roundg q
     case measure=>exact Nat.lt_succ_self _
     case rel=>exact ⟨j+1,by first | rfl | (rw [E1.out]),Z.out⟩
    ·have K:Aside (∀ w',Below wr.heap.size wr w'->∀ o,z3p w G EN P (.returned (.tuple #[.slice none 0 0,.int .i64 (EN (P.getD j 0))])) (w'.alloc o)):=fun w' hb o=>by
      have hsz:=F.bel.size;have:=hb.size;exact ⟨(F.bel.trans (hb.mono hsz)).alloc (by omega) o,.inr ⟨j,hjP,F.ok,hE,rfl⟩⟩
     have hE':(EN (P.getD j 0) != 0)=true:=bne_iff_ne.2 hE;clear hj F a1 a2 a3 a4 a5 a6 a7 A HA F0 hjP hmem hnd hE;generalize hH:G (P.getD j 0)=H at *
     clear hH;generalize EN (P.getD j 0)=E at *
     generalize P.getD j 0=y at *
     go_wp2_with fail
     refine cn.mono ?_;rintro e w1 ⟨rfl,hb1⟩;clear cn hc;go_wp2_with (refine wpList_store_row rfl 23 (.tmp 9) (.tmp 24) rfl _ _ rfl rfl 23 _ (Has.new w1 _ _) (z07 hl32) (by simp [z00,hl32]) (z0p H) ?_;rw [World.setRow_alloc_new])
     go_ret2;exact K.out w1 hb1 _
theorem z9Q (g cp:Nat) (ap:Option Addr) (G:Nat->List Int) (EN:Nat->Int) (w:World):
  Calls Tryz.prog 43 #[.iface 43 (.pointer (some ⟨g,0,none⟩)),.slice ap 0 cp] w (z3p w G EN []):=by
 obtain ⟨cur,hcs,hmk⟩:=z4f 0 (by omega) w;have hmk':(Instr.makeSlice 42 (.int .i64 0) (.int .i64 0)).run Tryz.prog w=.ok (.slice (some ⟨w.heap.size,0,none⟩) 0 0) (w.alloc (.cells cur 23)):=hmk
 have K:Aside (z3p w G EN [] (.returned (.tuple #[.slice (some ⟨w.heap.size,0,none⟩) 0 0,.int .i64 0])) (w.alloc (.cells cur 23))):=
  ⟨(Below.refl _ _).alloc (Nat.le_refl _) _,.inl ⟨fun p hp=>(by cases hp),_,rfl,World.ownsRow_made w cur 0 (Nat.le_refl _) (by simp [maxLen]) (by rw [hcs])⟩⟩
 clear hcs hmk;go_enter Tryz.func43,Tryz.ntmps43;go_wp2;refine wp_loop_rounds 1 ?_;rw [rounds_succ];go_wp2;go_ret2;exact K.out
theorem zc7 (g:Nat) (G:Nat->List Int) (EN:Nat->Int) (P:List Nat) (pv:Value) (B:Nat) (w:World) (hP:P.length<=188) (hG:∀ p,(G p).length=32) (hN:z5a w g G EN P) (hR:w.ownsRow B 24 1 pv P.length (UCELLS P)):
  Calls Tryz.prog 43 #[.iface 43 (.pointer (some ⟨g,0,none⟩)),pv] w (z3p w G EN P):=by
 obtain ⟨a,cp,rfl,hc⟩:=zeS hR;rcases Nat.eq_zero_or_pos P.length with h | h
 ·have hP0:=List.eq_nil_of_length_eq_zero h
  subst hP0;exact z9Q g cp a G EN w
 ·obtain ⟨gp,rfl,hgl,hcs⟩:=hc h
  exact zdO g gp cp G EN P w hP h hG hN hcs hgl
def TMADE (w:World) (G:Nat->List Int) (EN:Nat->Int) (D:Int × List Nat) (X Y:Nat) (e:Ending) (w':World):Prop:=
 Below w.heap.size w w'/\
 ((D.1≠0/\e=.returned (.tuple #[.agg #[.int .u64 0,.int .u64 0,.slice none 0 0],.int .i64 D.1]))\/
  (D.1=0/\(∀ p∈D.2,EN p=0)/\∃ u,e=.returned (.tuple #[.agg #[.int .u64 (X:Int),.int .u64 (Y:Int),u],.int .i64 0])/\w'.ownsRow w.heap.size 23 32 u D.2.length (z00 (TFL G D.2 D.2.length)))\/
  (D.1=0/\∃ j,j<D.2.length/\(∀ i,i<j->EN (D.2.getD i 0)=0)/\EN (D.2.getD j 0)≠0/\e=.returned (.tuple #[.agg #[.int .u64 0,.int .u64 0,.slice none 0 0],.int .i64 (EN (D.2.getD j 0))])))
theorem zfr (X Y:Nat) (g:Nat) (G:Nat->List Int) (EN:Nat->Int) (hG:∀ p,(G p).length=32) (w:World) (hN:z5a w g G EN (PLA Y X).2) (hT:Tabled w) (h0:0<w.heap.size):
  Calls Tryz.prog 19 #[.iface 43 (.pointer (some ⟨g,0,none⟩)),.int .u64 (Y:Int),.int .u64 (X:Int)] w (TMADE w G EN (PLA Y X) X Y):=by
 have CP:Aside (∀ W,Below w.heap.size w W->Calls Tryz.prog 42 #[.int .u64 (Y:Int),.int .u64 (X:Int)] W fun e w'=>∃ v,e=.returned (.tuple #[v,.int .i64 (PLA Y X).1])/\w'.ownsRow W.heap.size 24 1 v (PLA Y X).2.length (UCELLS (PLA Y X).2)/\Below W.heap.size W w'):=
  fun W h=>z3R Y X W (hT.below h0 h) (Nat.lt_of_lt_of_le h0 h.size)
 have hfew:(PLA Y X).2.length<=188:=z6O _ _;generalize PLA Y X=D at *
 obtain ⟨E,P⟩:=D;dsimp only at *
 have HA:Aside (P.length<=188/\z5a w g G EN P/\∀ p,(G p).length=32):=⟨hfew,hN,hG⟩
 clear hfew hN hG hT h0;go_enter Tryz.func19,Tryz.ntmps19;go_wp2_with fail
 have hR:=Has.new w #[.int .u64 0,.int .u64 0,.slice none 0 0] 49;have hb0:Below w.heap.size w (w.alloc (.cells #[.int .u64 0,.int .u64 0,.slice none 0 0] 49)):=(Below.refl _ _).alloc (Nat.le_refl _) _;have hs0:(w.alloc (.cells #[.int .u64 0,.int .u64 0,.slice none 0 0] 49)).heap.size=w.heap.size+1:=by simp
 generalize w.alloc (.cells #[.int .u64 0,.int .u64 0,.slice none 0 0] 49)=w0 at *
 refine (CP.out _ hb0).mono ?_;rintro e w1 ⟨pv,rfl,hrow,hb⟩;clear CP;obtain ⟨a1,a2,a3⟩:=HA.out;have hbw:Below w.heap.size w w1:=hb0.trans (hb.mono hb0.size);have hR1:=hR.keep hb;have hsz:=hb.size;by_cases hE:E=0
 ·subst hE
  have cf:=zc7 g G EN P pv _ w1 a1 a3 (fun W hW=>a2 W (hbw.trans (hW.mono hbw.size))) hrow;have S0:Aside (Below w.heap.size w w1/\Has w1 w.heap.size #[.int .u64 0,.int .u64 0,.slice none 0 0] 49/\w.heap.size<w1.heap.size):=⟨hbw,hR1,by omega⟩
  clear hR hb0 hs0 hrow hb a1 a2 a3 hbw hR1 hsz HA;go_wp2_with fail
  refine cf.mono ?_;rintro e w2 ⟨hb2,h⟩;clear cf;obtain ⟨r1,r2,r3⟩:=S0.out;have hR2:Has w2 w.heap.size #[.int .u64 0,.int .u64 0,.slice none 0 0] 49:=r2.keep hb2;have x0:w2.cell? ⟨w.heap.size,0,none⟩=some (.int .u64 0):=hR2.cell 0;have x1:w2.cell? ⟨w.heap.size,1,none⟩=some (.int .u64 0):=hR2.cell 1;have x2:w2.cell? ⟨w.heap.size,2,none⟩=some (.slice none 0 0):=hR2.cell 2;have f0:=hR2.frozen 0;have f1:=hR2.frozen 1;have f2:=hR2.frozen 2;have hbB:Below w.heap.size w w2:=r1.trans (hb2.mono r1.size);rcases h with ⟨h1,u,rfl,hu1⟩ | ⟨j,hj,hj1,hj2,rfl⟩
  ·obtain ⟨ua,uc,rfl⟩:∃ ua uc,u=.slice ua P.length uc:=by
    rcases hu1.2 with ⟨e,h0⟩ | ⟨g,cap,cur,e,_⟩
    ·exact ⟨none,0,by rw [e,h0]⟩
    ·exact ⟨_,cap,e⟩
   obtain ⟨np,hnp⟩:∃ np,P.length=np:=⟨_,rfl⟩
   rw [hnp] at hu1;have HNP:Aside (P.length=np):=hnp;generalize hU0:Value.slice ua P.length uc=u at *
   rw [hnp] at hU0;subst hU0;have hun:(Value.slice ua np uc).ownBlock≠some w.heap.size:=fun e=>by have:=(hu1.lt _ e).1;omega
   have S1:Aside (Below w.heap.size w w2/\Has w2 w.heap.size #[.int .u64 0,.int .u64 0,.slice none 0 0] 49/\(∀ p∈P,EN p=0)/\w2.ownsRow w.heap.size 23 32 (.slice ua np uc) np (z00 (TFL G P np))/\(Value.slice ua np uc).ownBlock≠some w.heap.size):=⟨hbB,hR2,h1,z0W hu1 (by omega),hun⟩
   clear hb2 r1 r2 r3 hR2 hbB h1 hu1 hun S0 hnp;go_wp2;obtain ⟨r1,r2,r3,r8,r11⟩:=S1.out;have hH:=((r2.set 0 (.int .u64 (X:Int))).set 1 (.int .u64 (Y:Int))).set 2 (.slice ua np uc);have hb:=((r1.setCell (p:=⟨w.heap.size,0,none⟩) (Nat.le_refl _) (.int .u64 (X:Int))).setCell (p:=⟨w.heap.size,1,none⟩) (Nat.le_refl _) (.int .u64 (Y:Int))).setCell (p:=⟨w.heap.size,2,none⟩) (Nat.le_refl _) (.slice ua np uc);have hU:=((r8.kept (z2o w2 w.heap.size 0 (.int .u64 (X:Int))) (.inr fun e=>r11 e)).kept (z2o _ w.heap.size 1 (.int .u64 (Y:Int))) (.inr fun e=>r11 e)).kept (z2o _ w.heap.size 2 (.slice ua np uc)) (.inr fun e=>r11 e);clear x0 x1 x2 f0 f1 f2 S1 r1 r2 r8;generalize ((w2.setCell ⟨w.heap.size,0,none⟩ (.int .u64 (X:Int))).setCell ⟨w.heap.size,1,none⟩ (.int .u64 (Y:Int))).setCell ⟨w.heap.size,2,none⟩ (.slice ua np uc)=wf at *
   have z0:wf.cell? ⟨w.heap.size,0,none⟩=some (.int .u64 (X:Int)):=hH.cell 0;have z1:wf.cell? ⟨w.heap.size,1,none⟩=some (.int .u64 (Y:Int)):=hH.cell 1;have z2:wf.cell? ⟨w.heap.size,2,none⟩=some (.slice ua np uc):=hH.cell 2;refine bodyPost_ret (v:=.tuple #[.agg #[.int .u64 (X:Int),.int .u64 (Y:Int),.slice ua np uc],.int .i64 0]) ?_ rfl ⟨hb,.inr (.inl ⟨rfl,r3,_,rfl,by rw [HNP.out];exact hU⟩)⟩;simp [results,Tryz.f19,go_sem,z0,z1,z2]
  ·have S1:Aside (Below w.heap.size w w2/\Has w2 w.heap.size #[.int .u64 0,.int .u64 0,.slice none 0 0] 49/\j<P.length/\(∀ i,i<j->EN (P.getD i 0)=0)/\EN (P.getD j 0)≠0):=⟨hbB,hR2,hj,hj1,hj2⟩
   have hE':(EN (P.getD j 0) != 0)=true:=bne_iff_ne.2 hj2;clear hb2 r1 r2 r3 hR2 hbB hj hj1 hj2 S0;obtain ⟨EE,hEE⟩:∃ EE,EN (P.getD j 0)=EE:=⟨_,rfl⟩
   rw [hEE] at hE' ⊢;have HEE:Aside (EN (P.getD j 0)=EE):=hEE;clear hEE;go_wp2;obtain ⟨r1,r2,r3,r4,r5⟩:=S1.out;have hH:=((r2.set 0 (.int .u64 0)).set 1 (.int .u64 0)).set 2 (.slice none 0 0);have hb:=((r1.setCell (p:=⟨w.heap.size,0,none⟩) (Nat.le_refl _) (.int .u64 0)).setCell (p:=⟨w.heap.size,1,none⟩) (Nat.le_refl _) (.int .u64 0)).setCell (p:=⟨w.heap.size,2,none⟩) (Nat.le_refl _) (.slice none 0 0);clear x0 x1 x2 f0 f1 f2 S1 r1 r2;generalize ((w2.setCell ⟨w.heap.size,0,none⟩ (.int .u64 0)).setCell ⟨w.heap.size,1,none⟩ (.int .u64 0)).setCell ⟨w.heap.size,2,none⟩ (.slice none 0 0)=wf at *
   have z0:wf.cell? ⟨w.heap.size,0,none⟩=some (.int .u64 0):=hH.cell 0;have z1:wf.cell? ⟨w.heap.size,1,none⟩=some (.int .u64 0):=hH.cell 1;have z2:wf.cell? ⟨w.heap.size,2,none⟩=some (.slice none 0 0):=hH.cell 2;refine bodyPost_ret (v:=.tuple #[.agg #[.int .u64 0,.int .u64 0,.slice none 0 0],.int .i64 EE]) ?_ rfl ⟨hb,.inr (.inr ⟨rfl,j,r3,r4,r5,by rw [HEE.out]⟩)⟩;simp [results,Tryz.f19,go_sem,z0,z1,z2]
 ·have hE':(E != 0)=true:=by simp [hE]
  have x0:w1.cell? ⟨w.heap.size,0,none⟩=some (.int .u64 0):=hR1.cell 0;have x1:w1.cell? ⟨w.heap.size,1,none⟩=some (.int .u64 0):=hR1.cell 1;have x2:w1.cell? ⟨w.heap.size,2,none⟩=some (.slice none 0 0):=hR1.cell 2;have f0:=hR1.frozen 0;have f1:=hR1.frozen 1;have f2:=hR1.frozen 2;have S0:Aside (Below w.heap.size w w1/\Has w1 w.heap.size #[.int .u64 0,.int .u64 0,.slice none 0 0] 49/\¬ E=0):=⟨hbw,hR1,hE⟩
  clear hR hb0 hs0 hrow hb a1 a2 a3 hbw hR1 hsz HA hE;go_wp2;obtain ⟨r1,r2,r3⟩:=S0.out;have hH:=((r2.set 0 (.int .u64 0)).set 1 (.int .u64 0)).set 2 (.slice none 0 0);have hb:=((r1.setCell (p:=⟨w.heap.size,0,none⟩) (Nat.le_refl _) (.int .u64 0)).setCell (p:=⟨w.heap.size,1,none⟩) (Nat.le_refl _) (.int .u64 0)).setCell (p:=⟨w.heap.size,2,none⟩) (Nat.le_refl _) (.slice none 0 0);clear x0 x1 x2 f0 f1 f2 S0 r1 r2;generalize ((w1.setCell ⟨w.heap.size,0,none⟩ (.int .u64 0)).setCell ⟨w.heap.size,1,none⟩ (.int .u64 0)).setCell ⟨w.heap.size,2,none⟩ (.slice none 0 0)=wf at *
  have z0:wf.cell? ⟨w.heap.size,0,none⟩=some (.int .u64 0):=hH.cell 0;have z1:wf.cell? ⟨w.heap.size,1,none⟩=some (.int .u64 0):=hH.cell 1;have z2:wf.cell? ⟨w.heap.size,2,none⟩=some (.slice none 0 0):=hH.cell 2;refine bodyPost_ret (v:=.tuple #[.agg #[.int .u64 0,.int .u64 0,.slice none 0 0],.int .i64 E]) ?_ rfl ⟨hb,.inl ⟨r3,rfl⟩⟩;simp [results,Tryz.f19,go_sem,z0,z1,z2]
end Go.Proofs.YtnimaaflmdoaaaaGreatDoor
namespace Go.Proofs.YtnimaaflmdoaaaaGreatDoor.HX
open Go.RowKit
set_option maxRecDepth 100000
def z5b (d:Int) (l r:Nat->Nat):Nat->Nat:=HX.z0e d (1 :: ((List.range 32).map l ++ (List.range 32).map r))
theorem zfs (d:Int) (l r:Nat->Nat) (i:Nat):z5b d l r i<256:=HX.z1I d _ _ i
def VAL (d:Int) (f:Nat->Nat->Nat):Nat->Nat->Nat->Nat
 | 0,k=>f k
 | h+1,k=>z5b d (VAL d f h (2*k)) (VAL d f h (2*k+1))
theorem z2z {d:Int} {f:Nat->Nat->Nat} {n:Nat} (hf:∀ k,k<n->∀ i,f k i<256):∀ (h k:Nat),(k+1)*2 ^ h<=n->∀ i,VAL d f h k i<256
 | 0,k,hk,i=>hf k (by simp at hk;omega) i
 | h+1,k,_,i=>zfs _ _ _ i
theorem z1F {d:Int} {f g:Nat->Nat->Nat} {n:Nat} (hfg:∀ k,k<n->f k=g k):∀ (h k:Nat),(k+1)*2 ^ h<=n->VAL d f h k=VAL d g h k
 | 0,k,hk=>hfg k (by simp at hk;omega)
 | h+1,k,hk=>by
   have e:(k+1)*2 ^ (h+1)=(2*k+1+1)*2 ^ h:=by rw [Nat.pow_succ,show 2*k+1+1=(k+1)*2 by omega,Nat.mul_assoc,Nat.mul_comm (2 ^ h) 2]
   have h2:(2*k+1+1)*2 ^ h<=n:=by omega
   have h1:(2*k+1)*2 ^ h<=n:=Nat.le_trans (Nat.mul_le_mul_right _ (by omega)) h2;rw [VAL,VAL,z1F hfg h (2*k) h1,z1F hfg h (2*k+1) h2]
def z0E (f:Nat->Nat->Nat) (n:Nat) (x:Nat->Nat):Nat->Nat->Nat:=fun k=>if k=n then x else f k
theorem z93 (f:Nat->Nat->Nat) (n:Nat) (x:Nat->Nat):z0E f n x n=x:=by simp [z0E]
theorem zdP (f:Nat->Nat->Nat) (n:Nat) (x:Nat->Nat) {k:Nat} (h:k<n):z0E f n x k=f k:=by
 unfold z0E;rw [if_neg (by omega)]
def ONES (n j:Nat):Prop:=∀ i,i<j->n / 2 ^ i % 2=1
theorem ONES.next {n j:Nat} (h:ONES n j) (hj:n / 2 ^ j % 2=1):ONES n (j+1):=fun i hi=>by
 by_cases e:i=j
 ·subst e;exact hj
 ·exact h i (by omega)
theorem z0B (n j:Nat):n / 2 ^ (j+1)=n / 2 ^ j / 2:=by rw [Nat.pow_succ,Nat.div_div_eq_div_mul]
theorem ONES.place {n:Nat}:∀ {j:Nat},ONES n j->PLC j (n / 2 ^ j)=z05 n+j
 | 0,_=>by rw [Nat.pow_zero,Nat.div_one,z85];rfl
 | j+1,h=>by
   have h1:=h j (by omega);have ih:=ONES.place (n:=n) (j:=j) fun i hi=>h i (by omega);have e:n / 2 ^ j=2*(n / 2 ^ (j+1))+1:=by rw [z0B];omega
   rw [z39,<-e,ih];omega
theorem ONES.span {n:Nat}:∀ {j:Nat},ONES n j->(n / 2 ^ j+1)*2 ^ j=n+1
 | 0,_=>by simp
 | j+1,h=>by
   have h1:=h j (by omega);have ih:=ONES.span (n:=n) (j:=j) fun i hi=>h i (by omega);have e:n / 2 ^ j=2*(n / 2 ^ (j+1))+1:=by rw [z0B];omega
   rw [<-ih,e];generalize n / 2 ^ (j+1)=q;rw [Nat.pow_succ,show 2*q+1+1=(q+1)*2 by omega,Nat.mul_assoc,Nat.mul_comm (2 ^ j) 2]
theorem ONES.of_span {n h k:Nat} (e:(k+1)*2 ^ h=n+1):k=n / 2 ^ h/\ONES n h:=by
 have hp:0<2 ^ h:=Nat.two_pow_pos h
 have ek:n=k*2 ^ h+(2 ^ h - 1):=by
  have:(k+1)*2 ^ h=k*2 ^ h+2 ^ h:=by rw [Nat.add_mul,Nat.one_mul]
  omega
 refine ⟨?_,fun i hi=>?_⟩
 ·rw [ek,Nat.mul_comm k,Nat.mul_add_div hp,Nat.div_eq_of_lt (by omega),Nat.add_zero]
 ·obtain ⟨m,rfl⟩:∃ m,h=i+1+m:=⟨h - (i+1),by omega⟩
  have hpi:0<2 ^ i:=Nat.two_pow_pos i
  have e2:n+1=((k+1)*2 ^ m*2)*2 ^ i:=by
   rw [<-e,Nat.pow_add,Nat.pow_succ,Nat.mul_assoc (k+1),Nat.mul_assoc (k+1)];congr 1
   rw [Nat.mul_comm (2 ^ i*2),<-Nat.mul_assoc,Nat.mul_assoc (2 ^ m),Nat.mul_assoc (2 ^ m),Nat.mul_comm 2 (2 ^ i)]
  obtain ⟨q,hq⟩:∃ q,(k+1)*2 ^ m=q+1:=⟨(k+1)*2 ^ m - 1,by have:0<(k+1)*2 ^ m:=Nat.mul_pos (by omega) (Nat.two_pow_pos m);omega⟩
  rw [hq] at e2
  have e3:n=(2*q+1)*2 ^ i+(2 ^ i - 1):=by
   have:(q+1)*2*2 ^ i=(2*q+1)*2 ^ i+2 ^ i:=by rw [show (q+1)*2=2*q+1+1 by omega,Nat.add_mul,Nat.one_mul]
   omega
  have e4:n / 2 ^ i=2*q+1:=by
   rw [e3,Nat.mul_comm (2*q+1),Nat.mul_add_div hpi,Nat.div_eq_of_lt (by omega),Nat.add_zero]
  omega
theorem zft (n:Nat):∃ t,ONES n t/\n / 2 ^ t % 2=0:=by
 suffices h:∀ m j,ONES n j->n<=m+j->∃ t,ONES n t/\n / 2 ^ t % 2=0 from h n 0 (fun i hi=>by omega) (by omega)
 intro m;induction m with
 | zero=>
   intro j hj hn;refine ⟨j,hj,?_⟩;have:n<2 ^ j:=Nat.lt_of_le_of_lt (by omega) (Nat.lt_two_pow_self (n:=j));rw [Nat.div_eq_of_lt this]
 | succ m ih=>
   intro j hj hn;by_cases e:n / 2 ^ j % 2=0
   ·exact ⟨j,hj,e⟩
   ·exact ih (j+1) (hj.next (by omega)) (by omega)
theorem ONES.nodes {n t:Nat} (h:ONES n t) (ht:n / 2 ^ t % 2=0):z05 (n+1)=z05 n+t+1:=by
 have hp:0<2 ^ t:=Nat.two_pow_pos t;obtain ⟨q,hq⟩:∃ q,n / 2 ^ t=2*q:=⟨n / 2 ^ t / 2,by omega⟩
 have hs:=h.span;rw [hq] at hs;have e1:PC (n+1)=PC q+1:=by rw [<-hs,z2D,z3N]
 have e2:n=(2*q)*2 ^ t+(2 ^ t - 1):=by
  have:(2*q+1)*2 ^ t=2*q*2 ^ t+2 ^ t:=by rw [Nat.add_mul,Nat.one_mul]
  omega
 have e3:PC n=PC q+t:=by
  rw [e2,z4F t (2*q) (2 ^ t - 1) (by omega),z54,z6B]
 have h1:=z0T n;have h2:=z0T (n+1);omega
theorem ONES.lt {n t:Nat} (h:ONES n t):t<=n:=by
 have h1:=h.span;have h2:t<2 ^ t:=Nat.lt_two_pow_self;have h3:1*2 ^ t<=(n / 2 ^ t+1)*2 ^ t:=Nat.mul_le_mul_right _ (Nat.le_add_left 1 _);generalize n / 2 ^ t=q at *
 omega
theorem z3C {n h k:Nat} (hk:(k+1)*2 ^ h<=n):PLC h k<z05 n:=by
 have h1:=zel h k;have h2:=za9 h k;obtain ⟨m,hm⟩:∃ m,(k+1)*2 ^ h=m+1:=⟨(k+1)*2 ^ h - 1,by omega⟩
 rw [hm,Nat.add_sub_cancel] at h1;have h3:z05 (m+1)<=z05 n:=z5y (by omega);have ho:ONES m h:=(ONES.of_span hm).2;obtain ⟨t,ht1,ht2⟩:∃ t,ONES m t/\m / 2 ^ t % 2=0:=zft m;have h4:=ht1.nodes ht2
 have h5:h<=t:=by
  rcases Nat.lt_or_ge t h with hlt | hge
  ·have:=ho t hlt
   omega
  ·exact hge
 omega
end Go.Proofs.YtnimaaflmdoaaaaGreatDoor.HX
namespace Go.Proofs.YtnimaaflmdoaaaaGreatDoor.HX
open Go.RowKit
theorem z94 (x:Int) (w:World):Calls Tryz.prog 189 #[.int .u64 x] w fun e w'=>e=.returned (.bool false)/\w=w':=by
 go_enter Tryz.func189,Tryz.ntmps189;go_wp2;go_ret;exact ⟨rfl,rfl⟩
def CMP (x y:Nat):Int:=if x<y then -1 else if y<x then 1 else 0
theorem zc8 (x y:Nat) (w:World):Calls Tryz.prog 178 #[.int .u64 (x:Int),.int .u64 (y:Int)] w fun e w'=>e=.returned (.int .i64 (CMP x y))/\w=w':=by
 have c1:=fun w=>z94 (x:Int) w;have c2:=fun w=>z94 (y:Int) w;rcases Nat.lt_trichotomy x y with h | h | h
 ·have h1:(x:Int)<(y:Int):=by omega
  have e:CMP x y = -1:=by unfold CMP;rw [if_pos h]
  rw [e];go_enter Tryz.func178,Tryz.ntmps178;go_wp2_with fail
  refine (c1 _).mono ?_;rintro e w' ⟨rfl,rfl⟩;go_wp2_with fail
  refine (c2 _).mono ?_;rintro e w' ⟨rfl,rfl⟩;go_wp2;go_ret;exact ⟨rfl,rfl⟩
 ·subst h
  have e:CMP x x=0:=by unfold CMP;rw [if_neg (by omega),if_neg (by omega)]
  rw [e];go_enter Tryz.func178,Tryz.ntmps178;go_wp2_with fail
  refine (c1 _).mono ?_;rintro e w' ⟨rfl,rfl⟩;go_wp2_with fail
  refine (c1 _).mono ?_;rintro e w' ⟨rfl,rfl⟩;go_wp2;go_ret;exact ⟨rfl,rfl⟩
 ·have h1:¬ (x:Int)<(y:Int):=by omega
  have h2:(y:Int)<(x:Int):=by omega
  have e:CMP x y=1:=by unfold CMP;rw [if_neg (by omega),if_pos h]
  rw [e];go_enter Tryz.func178,Tryz.ntmps178;go_wp2_with fail
  refine (c1 _).mono ?_;rintro e w' ⟨rfl,rfl⟩;go_wp2_with fail
  refine (c2 _).mono ?_;rintro e w' ⟨rfl,rfl⟩;go_wp2;go_ret;exact ⟨rfl,rfl⟩
theorem zdQ (p r:Int) (h:p / 64=r) (w:World):Calls Tryz.prog 152 #[.int .u64 p] w fun e w'=>e=.returned (.int .u64 r)/\w=w':=by
 go_enter Tryz.func152,Tryz.ntmps152;go_wp2;go_ret;exact ⟨rfl,rfl⟩
theorem z95 (p:Nat) (w:World):Calls Tryz.prog 152 #[.int .u64 (p:Int)] w fun e w'=>e=.returned (.int .u64 ((p / 64:Nat):Int))/\w=w':=zdQ _ _ (by omega) w
theorem zdR (p k r:Int) (h0:bits .and .u64 p 63=k) (hk:¬ k<0) (h:IntKind.u64.wrap (2 ^ min k.toNat 64)=r) (w:World):Calls Tryz.prog 155 #[.int .u64 p] w fun e w'=>e=.returned (.int .u64 r)/\w=w':=by
 subst h;go_enter Tryz.func155,Tryz.ntmps155;go_wp2;go_ret;exact ⟨rfl,rfl⟩
theorem z5Q (p:Nat) (hp:p<2 ^ 64) (w:World):Calls Tryz.prog 155 #[.int .u64 (p:Int)] w fun e w'=>e=.returned (.int .u64 ((2 ^ (p % 64):Nat):Int))/\w=w':=by
 have hk:p % 64<64:=Nat.mod_lt _ (by decide);have e:(p &&& 63:Nat)=p % 64:=Nat.and_two_pow_sub_one_eq_mod p 6;have h2:2 ^ (p % 64)<2 ^ 64:=Nat.pow_lt_pow_right (by decide) hk;refine zdR _ ((p % 64:Nat):Int) _ ((z2j rfl rfl hp (by decide)).trans (by rw [e])) (by omega) ?_ w;rw [Int.toNat_natCast,Nat.min_eq_left (by omega)];exact z1e (by push_cast;rfl) h2
abbrev zc9 (log:Nat):Array Value:=#[.int .i64 (log:Int),.int .u64 0,.int .u64 0,.map none,.map none]
theorem z9R (log:Nat) (h:log<=16) (w:World):Calls Tryz.prog 35 #[.int .i64 (log:Int)] w fun e w'=>e=.returned (.tuple #[.pointer (some ⟨w.heap.size,0,none⟩),.int .i64 0])/\w'=w.alloc (.cells (zc9 log) 84):=by
 have h1:¬ (log:Int)<0:=by omega
 have h2:¬ (16:Int)<(log:Int):=by omega
 go_enter Tryz.func35,Tryz.ntmps35;go_wp2;go_ret2;exact ⟨rfl,rfl⟩
theorem z7F (x y:Nat) (lv:Int) (a:Option Addr) (n c:Nat) (w:World):Calls Tryz.prog 177 #[.agg #[.int .u64 (x:Int),.int .u64 lv,.slice a n c],.int .u64 (y:Int)] w fun e w'=>e=.returned (.int .i64 (CMP x y))/\Below w.heap.size w w':=by
 have cc:=fun w=>zc8 x y w;go_enter Tryz.func177,Tryz.ntmps177;go_wp2_with fail
 refine (cc _).mono ?_;rintro e w' ⟨rfl,rfl⟩;go_wp2;go_ret;exact ⟨rfl,(Below.refl _ _).alloc (Nat.le_refl _) _⟩
structure RW where
 num:Nat
 live:Nat
 a:Option Addr
 n:Nat
 c:Nat
def z37 (w:World) (a:Option Addr) (rs:List RW):Prop:=0<rs.length->∃ g o,a=some ⟨g,o,none⟩/\g<w.heap.size/\∀ (j:Nat) (r:RW),rs[j]?=some r->w.cell? ⟨g,o+j*3,none⟩=some (.int .u64 (r.num:Int))/\w.cell? ⟨g,o+j*3+1,none⟩=some (.int .u64 (r.live:Int))/\w.cell? ⟨g,o+j*3+2,none⟩=some (.slice r.a r.n r.c)
def z80 (rs:List RW):Prop:=∀ (i j:Nat) (r s:RW),i<j->rs[i]?=some r->rs[j]?=some s->r.num<s.num
def z6l (rs:List RW) (t i:Nat):Prop:=i<=rs.length/\(∀ (j:Nat) (r:RW),j<i->rs[j]?=some r->r.num<t)/\(∀ (j:Nat) (r:RW),i<=j->rs[j]?=some r->t<=r.num)
theorem zhk {i j:Nat} (h:i<j):∃ m,i<=m/\m<j/\m=(i+j) / 2:=⟨(i+j) / 2,by omega,by omega,rfl⟩
theorem z96 (i j S m:Nat) (hj:j<2 ^ 40) (hi:i<j) (hS:i+j=S) (hm:m=(i+j) / 2):wrap64 ((i:Int)+(j:Int))=(S:Int)/\IntKind.u64.wrap ((i:Int)+(j:Int))=(S:Int)/\(S:Int) / 2=(m:Int)/\wrap64 (m:Int)=(m:Int)/\wrap64 ((m:Int)+1)=((m+1:Nat):Int)/\IntKind.u64.wrap (S:Int)=(S:Int):=by
 rw [z0k,z0k];unfold wrap64;omega
def z4v (rs:List RW) (t:Nat) (w:World) (e:Ending) (w':World):Prop:=∃ (i:Nat) (b:Bool),e=.returned (.tuple #[.int .i64 (i:Int),.bool b])/\z6l rs t i/\(b=true↔∃ r:RW,rs[i]?=some r/\r.num=t)/\Below w.heap.size w w'
theorem zdS (a:Option Addr) (n cap:Nat) (rs:List RW) (t:Nat) (hl:rs.length=n) (hn:n<2 ^ 40) (hR:z80 rs) (w:World) (hL:z37 w a rs):Calls Tryz.prog 176 #[.slice a n cap,.int .u64 (t:Int),.func (.func 177) #[] #[]] w fun e w'=>z4v rs t w e w':=by
 have H:Aside (rs.length=n/\n<2 ^ 40/\z80 rs/\z37 w a rs):=⟨hl,hn,hR,hL⟩
 clear hl hn hR hL;go_enter Tryz.func176,Tryz.ntmps176;go_wp2;go_loopg [9,10] n (fun gg s9 s10 wx=>∃ i j:Nat,s9=.int .i64 (i:Int)/\s10=.int .i64 (j:Int)/\Aside (i+gg=j/\j<=n/\(∀ (k:Nat) (r:RW),k<i->rs[k]?=some r->r.num<t)/\(∀ (k:Nat) (r:RW),j<=k->rs[k]?=some r->t<=r.num)/\Below w.heap.size w wx))
 case atStart=>exact ⟨0,n,rfl,rfl,by omega,Nat.le_refl _,fun k r h=>by omega,fun k r h e=>by have:=(List.getElem?_eq_some_iff.1 e).1;have:=H.out.1;omega,Below.refl _ _⟩
 case round=>
  obtain ⟨i,j,rfl,rfl,I⟩:=hrel;cases gk with
  | zero=>
    obtain ⟨i1,i2,i3,i4,i5⟩:=I.out;obtain rfl:i=j:=by omega
    have hlt:¬ (i:Int)<(i:Int):=by omega
    rcases Nat.lt_or_ge i n with hin | hin
    ·have hi2:(i:Int)<(n:Int):=by omega
     have hi0:(0:Int)<=(i:Int):=by omega
     obtain ⟨h1,h2,h3,h4⟩:=H.out;obtain ⟨r,er⟩:∃ r,rs[i]?=some r:=⟨_,List.getElem?_eq_getElem (by omega)⟩
     obtain ⟨g,o,rfl,hg,hc⟩:=h4 (by omega);obtain ⟨y0,y1,y2⟩:=hc i r er;have x0:=(i5.cell (p:=⟨g,o+i*3,none⟩) hg).trans y0;have x1:=(i5.cell (p:=⟨g,o+i*3+1,none⟩) hg).trans y1;have x2:=(i5.cell (p:=⟨g,o+i*3+2,none⟩) hg).trans y2;have cc:=z7F r.num t (r.live:Int) r.a r.n r.c;have R:Aside (z6l rs t i/\rs[i]?=some r/\Below w.heap.size w wr):=⟨⟨by omega,i3,i4⟩,er,i5⟩
     clear i1 i2 i3 i4 i5 h1 h2 h3 h4 y0 y1 y2 hc er I;go_wp2_with fail
     refine (cc _).mono ?_;rintro e w2 ⟨rfl,hb⟩;have R2:Aside (Below w.heap.size w w2):=R.out.2.2.trans (hb.mono R.out.2.2.size);clear hb cc;generalize hcmp:CMP r.num t=cv at *
     have HC:Aside (CMP r.num t=cv):=hcmp;clear hcmp;go_wp2;go_ret2;refine ⟨i,_,rfl,R.out.1,?_,R2.out⟩;have hc:=HC.out;unfold CMP at hc;constructor
     ·intro h
      refine ⟨r,R.out.2.1,?_⟩;have h':cv=0:=by simpa using h
      split at hc
      ·omega
      ·split at hc <;> omega
     ·rintro ⟨r',e,rfl⟩
      rw [R.out.2.1] at e;cases e;have h':cv=0:=by rw [<-hc,if_neg (by omega),if_neg (by omega)]
      simp [h']
    ·have hi2:¬ (i:Int)<(n:Int):=by omega
     have R:Aside (z6l rs t i/\rs[i]?=none/\Below w.heap.size w wr):=⟨⟨by have:=H.out.1;omega,i3,i4⟩,List.getElem?_eq_none (by have:=H.out.1;omega),i5⟩
     clear i1 i2 i3 i4 i5 I;go_wp2;go_ret2;refine ⟨i,false,rfl,R.out.1,⟨(fun h=>by cases h),fun ⟨r,e,_⟩=>by rw [R.out.2.1] at e;cases e⟩,R.out.2.2⟩
  | succ gg=>
    obtain ⟨i1,i2,i3,i4,i5⟩:=I.out;have hij:(i:Int)<(j:Int):=by omega
    obtain ⟨h1,h2,h3,h4⟩:=H.out;obtain ⟨m,m1,m2,m3⟩:=zhk (i:=i) (j:=j) (by omega);obtain ⟨S,hS⟩:∃ S,i+j=S:=⟨_,rfl⟩
    have HW:Aside _:=z96 i j S m (by omega) (by omega) hS m3;clear hS;have hm2:(m:Int)<(n:Int):=by omega
    have hm0:(0:Int)<=(m:Int):=by omega
    obtain ⟨r,er⟩:∃ r,rs[m]?=some r:=⟨_,List.getElem?_eq_getElem (by omega)⟩
    obtain ⟨g,o,rfl,hg,hc⟩:=h4 (by omega);obtain ⟨y0,y1,y2⟩:=hc m r er;have x0:=(i5.cell (p:=⟨g,o+m*3,none⟩) hg).trans y0;have x1:=(i5.cell (p:=⟨g,o+m*3+1,none⟩) hg).trans y1;have x2:=(i5.cell (p:=⟨g,o+m*3+2,none⟩) hg).trans y2;have cc:=z7F r.num t (r.live:Int) r.a r.n r.c
    have LO:Aside (r.num<t->∀ (k:Nat) (s:RW),k<m+1->rs[k]?=some s->s.num<t):=fun h k s hk e=>by
     rcases Nat.lt_or_ge k m with hkm | hkm
     ·have:=h3 k m s r hkm e er
      omega
     ·obtain rfl:k=m:=by omega
      rw [er] at e;cases e;exact h
    have HI:Aside (¬ r.num<t->∀ (k:Nat) (s:RW),m<=k->rs[k]?=some s->t<=s.num):=fun h k s hk e=>by
     rcases Nat.lt_or_ge m k with hkm | hkm
     ·have:=h3 m k r s hkm er e
      omega
     ·obtain rfl:k=m:=by omega
      rw [er] at e;cases e;omega
    have R:Aside (i<=m/\m<j/\j<=n/\i+(gg+1)=j/\(∀ (k:Nat) (r:RW),k<i->rs[k]?=some r->r.num<t)/\(∀ (k:Nat) (r:RW),j<=k->rs[k]?=some r->t<=r.num)/\Below w.heap.size w wr):=⟨m1,m2,i2,i1,i3,i4,i5⟩
    clear i1 i2 i3 i4 i5 h1 h2 h3 h4 y0 y1 y2 hc er I m1 m2 m3;obtain ⟨q1,q2,q3,q4,q5,q6⟩:=HW.out;go_wp2_with fail
    refine (cc _).mono ?_;rintro e w2 ⟨rfl,hb⟩;have R2:Aside (Below w.heap.size w w2):=R.out.2.2.2.2.2.2.trans (hb.mono R.out.2.2.2.2.2.2.size);clear hb cc x0 x1 x2;by_cases hlt:r.num<t
    ·have e:CMP r.num t = -1:=by unfold CMP;rw [if_pos hlt]
     rw [e];have L:=LO.out hlt;have LL:Aside (∀ (k:Nat) (s:RW),k<m+1->rs[k]?=some s->s.num<t):=L;clear L hlt e;go_wp2;go_roundg (j - (m+1))
     case measure=>have:=R.out;clear q1 q2 q3 q4 q5 q6;omega
     case rel=>exact ⟨m+1,j,by first | rfl | (rw [q5]),rfl,by have:=R.out;clear q1 q2 q3 q4 q5 q6;omega,R.out.2.2.1,LL.out,R.out.2.2.2.2.2.1,R2.out⟩
    ·have e:¬ CMP r.num t<0:=by unfold CMP;rw [if_neg hlt];split <;> omega
     have L:=HI.out hlt;have LL:Aside (∀ (k:Nat) (s:RW),m<=k->rs[k]?=some s->t<=s.num):=L;generalize CMP r.num t=cv at *
     clear L hlt;go_wp2;go_roundg (m - i)
     case measure=>have:=R.out;clear q1 q2 q3 q4 q5 q6;omega
     case rel=>exact ⟨i,m,rfl,by first | rfl | (rw [q4]),by have:=R.out;clear q1 q2 q3 q4 q5 q6;omega,by have:=R.out;clear q1 q2 q3 q4 q5 q6;omega,R.out.2.2.2.2.1,LL.out,R2.out⟩
theorem z9S (g:Nat) (p log r:Int) (hl:¬ log<0) (w:World) (h:w.cell? ⟨g,0,none⟩=some (.int .i64 log)) (e:p / 2 ^ min log.toNat 64=r):Calls Tryz.prog 120 #[.pointer (some ⟨g,0,none⟩),.int .u64 p] w fun e w'=>e=.returned (.agg #[.int .u64 r])/\Below w.heap.size w w':=by
 have hg:=World.block_lt_of_cell? w _ h;have h2:(w.alloc (.cells #[.int .u64 0] 166)).cell? ⟨g,0,none⟩=some (.int .i64 log):=(Below.cell (B:=w.heap.size) ((Below.refl _ _).alloc (Nat.le_refl _) _) hg).trans h;go_enter Tryz.func120,Tryz.ntmps120;go_wp2;refine bodyPost_ret (v:=.agg #[.int .u64 r]) ?_ rfl ⟨rfl,(Below.refl _ _).alloc (Nat.le_refl _) _⟩;simp [results,Tryz.f120,go_sem]
theorem zfu (g o:Nat) (lv bit k x:Int) (r:Nat) (w:World) (h:w.cell? ⟨g,o+1,none⟩=some (.int .u64 lv)) (e1:IntKind.u64.wrap (bit - 1)=k) (e2:bits .and .u64 lv k=x) (c:∀ w,Calls Tryz.prog 73 #[.int .u64 x] w fun e w'=>e=.returned (.int .i64 (r:Int))/\w=w'):Calls Tryz.prog 154 #[.pointer (some ⟨g,o,none⟩),.int .u64 bit] w fun e w'=>e=.returned (.int .i64 (r:Int))/\w=w':=by
 go_enter Tryz.func154,Tryz.ntmps154;go_wp2_with fail
 refine (c _).mono ?_;rintro e w' ⟨rfl,rfl⟩;go_wp2;go_ret;exact ⟨rfl,rfl⟩
theorem z6Z (g o lv k:Nat) (hlv:lv<2 ^ 64) (hk:k<64) (w:World) (h:w.cell? ⟨g,o+1,none⟩=some (.int .u64 (lv:Int))):Calls Tryz.prog 154 #[.pointer (some ⟨g,o,none⟩),.int .u64 ((2 ^ k:Nat):Int)] w fun e w'=>e=.returned (.int .i64 ((POP (lv % 2 ^ k):Nat):Int))/\w=w':=by
 have hp:=Nat.two_pow_pos k;have h2:2 ^ k<2 ^ 64:=Nat.pow_lt_pow_right (by decide) hk;have e1:IntKind.u64.wrap (((2 ^ k:Nat):Int) - 1)=((2 ^ k - 1:Nat):Int):=z1e (by omega) (by omega)
 have e2:bits .and .u64 (lv:Int) ((2 ^ k - 1:Nat):Int)=((lv % 2 ^ k:Nat):Int):=by
  rw [z2j rfl rfl hlv (by omega),Nat.and_two_pow_sub_one_eq_mod]
 exact zfu g o lv _ _ _ _ w h e1 e2 (fun w=>z1P _ (Nat.lt_of_le_of_lt (Nat.mod_le _ _) hlv) w)
theorem zaI (g:Nat) (a:Option Addr) (n cap:Nat) (rs:List RW) (p:Nat) (hl:rs.length=n) (hn:n<2 ^ 40) (hR:z80 rs) (w:World) (hL:z37 w a rs) (hc:w.cell? ⟨g,0,none⟩=some (.slice a n cap)):Calls Tryz.prog 150 #[.pointer (some ⟨g,0,none⟩),.int .u64 (p:Int)] w fun e w'=>z4v rs (p / 64) w e w':=by
 have cs:Calls Tryz.prog 176 #[.slice a n cap,.int .u64 ((p / 64:Nat):Int),.func (.func 177) #[] #[]] w.drew fun e w'=>z4v rs (p / 64) w e w':=(zdS a n cap rs (p / 64) hl hn hR w.drew hL).mono fun e w' ⟨i,b,h1,h2,h3,h4⟩=>⟨i,b,h1,h2,h3,(Below.refl w.heap.size w).drew.trans h4⟩
 have cr:=fun w=>z95 p w;clear hL hR hn;go_enter Tryz.func150,Tryz.ntmps150;go_wp2_with fail
 go_region_held3 (fun W:World=>W.cell? ⟨g,0,none⟩=some (.slice a n cap)) (first | assumption | go_keep) (first
  | (go_at_call 152;refine (cr _).mono ?_;rintro e w2 ⟨rfl,rfl⟩)
  | (go_at_call 176;refine cs.mono ?_;rintro e w3 ⟨i,b,rfl,s1,s2,s3⟩;have S:Aside (z6l rs (p / 64) i/\(b=true↔∃ r:RW,rs[i]?=some r/\r.num=p / 64)/\Below w.heap.size w w3):=⟨s1,s2,s3⟩;have hc3:w3.cell? ⟨g,0,none⟩=some (.slice a n cap):=(s3.cell (World.block_lt_of_cell? w _ hc)).trans hc;clear s1 s2 s3))
 go_wp2;go_ret2;exact ⟨i,b,rfl,S.out⟩
end Go.Proofs.YtnimaaflmdoaaaaGreatDoor.HX
namespace Go.Proofs.YtnimaaflmdoaaaaGreatDoor.HX
open Go.RowKit Go.Maps
set_option maxRecDepth 100000
theorem z46:laidOutB Tryz.prog=true:=by kernel_rfl
theorem zdT:(166:TypeId)<Tryz.prog.types.size:=of_decide_eq_true (by kernel_rfl)
theorem zgy:(match Tryz.prog.underlying 166 with | some (.array _ _) | some (.struct _)=>true | _=>false)=true:=by rw [Tryz.underlying166]
theorem lawKey:Keyed Tryz.prog 166:=Keyed.of_law (deep_law_laid z46 (m:=2) (by omega) zdT (by kernel_rfl) zgy)
abbrev KEY (k:Nat):Value:=.agg #[.int .u64 (k:Int)]
def KK (k:Nat):Lit:=.string (keyBytes [.int .u64 (k:Int)])
theorem z2q {k:Nat} (hk:k<2 ^ 64):keyOf Tryz.prog 166 (KEY k)=some (KK k):=by
 have w1:(Lit.int .u64 (k:Int)).wf=true:=WalkArith.wf_u64 (by omega);have c3:Tryz.prog.cellsOf 166=1:=by kernel_rfl
 have c2:Tryz.prog.cellsOf 24=1:=by kernel_rfl
 have ht:Tryz.prog.keyType 166=true:=by kernel_rfl
 have hf:(KEY k).formed Tryz.prog 166=true:=by simp [Value.formed,Tryz.underlying166,c3]
 obtain ⟨m,hm⟩:∃ m,Tryz.prog.types.size=m+1:=⟨Tryz.prog.types.size - 1,(Nat.succ_pred_eq_of_pos (Nat.lt_of_le_of_lt (Nat.zero_le _) zdT)).symm⟩
 unfold keyOf;simp only [Tryz.underlying166,ht,hf,hm];simp [Program.keyLits,Tryz.underlying166,Tryz.underlying24,c2,c3,Value.cells,w1,KK]
theorem zdU {k k':Nat} (hk:k<2 ^ 64) (hk':k'<2 ^ 64) (e:KK k=KK k'):k=k':=by
 have h1:=z2q hk;have h2:=z2q hk';rw [<-e] at h2;have:=lawKey.inj h1 h2;simp at this;omega
abbrev UD (n:Nat):DataW Unit:=.lit (.int .u64 (n:Int))
def PE:Value->Option (DataW Unit × List MemPlace)
 | .pointer none=>some (UD 0,[])
 | .pointer (some ⟨g,0,none⟩)=>some (UD (g+1),[])
 | _=>none
theorem zgz {g:Nat}:PE (.pointer (some ⟨g,0,none⟩))=some (UD (g+1),[]):=rfl
theorem zdV {v:Value} {g:Nat} {ps:List MemPlace} (h:PE v=some (UD (g+1),ps)):v=.pointer (some ⟨g,0,none⟩):=by
 unfold PE at h;split at h
 ·simp at h
  omega
 ·simp at h
  obtain ⟨h, -⟩:=h;rw [Int.ofNat.inj h]
 ·cases h
theorem zgA {v:Value} {ps:List MemPlace} (h:PE v=some (UD 0,ps)):v=.pointer none:=by
 unfold PE at h;split at h
 ·rfl
 ·simp at h
  omega
 ·cases h
def ChunkMap (w:World) (b n:Nat) (M:Nat->Option Nat):Prop:=∃ D:DataW Unit,w.ownsMap Tryz.prog 166 PE b n D/\∀ k,k<2 ^ 64->(Maps.has D (KK k)=(M k).isSome)/\∀ g,M k=some g->D.atKey (KK k) (UD 0)=UD (g+1)
theorem ChunkMap.made (w:World):ChunkMap (w.alloc (.map #[] 0)) w.heap.size 0 (fun _=>none):=⟨_,World.ownsMap_made w _ _ _,fun k _=>⟨by simp [Maps.has],fun g h=>by cases h⟩⟩
theorem ChunkMap.lt {w:World} {b n:Nat} {M:Nat->Option Nat} (h:ChunkMap w b n M):b<w.heap.size:=let ⟨_,h1,_⟩:=h;h1.lt
theorem ChunkMap.kept {w w':World} {b n:Nat} {M:Nat->Option Nat} {row:Option Nat} (h:ChunkMap w b n M) (hg:w.grownBy w' row) (hne:some b≠row):ChunkMap w' b n M:=let ⟨D,h1,h2⟩:=h; ⟨D,h1.kept hg hne,h2⟩
theorem ChunkMap.at {w w':World} {b n:Nat} {M:Nat->Option Nat} (h:ChunkMap w b n M) (hb:w'.heap[b]?=w.heap[b]?):ChunkMap w' b n M:=by
 obtain ⟨D,⟨es,clock,h1,r⟩,h2⟩:=h;exact ⟨D,⟨es,clock,hb.trans h1,r⟩,h2⟩
theorem ChunkMap.below {w w':World} {b n:Nat} {M:Nat->Option Nat} (h:ChunkMap w b n M) (hb:Below w.heap.size w w'):ChunkMap w' b n M:=h.at (hb.block b h.lt)
theorem ChunkMap.setCell {w:World} {b n:Nat} {M:Nat->Option Nat} (h:ChunkMap w b n M) {a:Addr} (ha:b≠a.block) (u:Value):ChunkMap (w.setCell a u) b n M:=let ⟨D,h1,h2⟩:=h; ⟨D,h1.setCell ha u,h2⟩
theorem zaJ (w:World):(zeroValue 168).run Tryz.prog w=.ok (.pointer none) w:=by kernel_rfl
theorem ChunkMap.look {w:World} {b n k:Nat} {M:Nat->Option Nat} (h:ChunkMap w b n M) (hk:k<2 ^ 64):∃ v,(Instr.lookup 81 (.map (some b)) (KEY k) true).run Tryz.prog w=.ok (.tuple #[v,.bool (M k).isSome]) w/\(∀ g,M k=some g->v=.pointer (some ⟨g,0,none⟩))/\(M k=none->v=.pointer none):=by
 obtain ⟨D,h1,h2⟩:=h;obtain ⟨v,ps,r1,r2⟩:=h1.look_ok lawKey Tryz.underlying81 (zaJ w) (show PE (.pointer none)=some (UD 0,[]) from rfl) (z2q hk);refine ⟨v,by rw [r1,(h2 k hk).1],fun g hg=>?_,fun hg=>?_⟩
 ·rw [(h2 k hk).2 g hg] at r2
  exact zdV r2
 ·have hn:Maps.has D (KK k)=false:=by rw [(h2 k hk).1,hg];rfl
  rw [Maps.atKey_of_not_has hn] at r2;exact zgA r2
theorem ChunkMap.get {w:World} {b n k g:Nat} {M:Nat->Option Nat} (h:ChunkMap w b n M) (hk:k<2 ^ 64) (hg:M k=some g):(Instr.lookup 81 (.map (some b)) (KEY k) false).run Tryz.prog w=.ok (.pointer (some ⟨g,0,none⟩)) w:=by
 obtain ⟨D,h1,h2⟩:=h;obtain ⟨v,ps,r1,r2⟩:=h1.lookup lawKey Tryz.underlying81 (zaJ w) (show PE (.pointer none)=some (UD 0,[]) from rfl) (z2q hk);rw [(h2 k hk).2 g hg] at r2;rw [r1,zdV r2]
theorem ChunkMap.store {w:World} {b n k g:Nat} {M:Nat->Option Nat} (h:ChunkMap w b n M) (hn:n<2 ^ 40) (hk:k<2 ^ 64):∃ w',(Instr.mapUpdate 81 (.map (some b)) (KEY k) (.pointer (some ⟨g,0,none⟩))).run Tryz.prog w=.ok () w'/\ChunkMap w' b (n+1) (fun j=>if j=k then some g else M j)/\w.grownBy w' (some b):=by
 obtain ⟨D,h1,h2⟩:=h;obtain ⟨w',r1,r2,r3⟩:=h1.update lawKey Tryz.underlying81 (by unfold maxLen;omega) (z2q hk) (zgz (g:=g));refine ⟨w',r1,⟨_,r2,fun j hj=>?_⟩,r3⟩;dsimp only;have hkey:WideAt.IsKeyLit (KK k):=lawKey.key (z2q hk);by_cases e:j=k
 ·subst e
  rw [if_pos rfl];exact ⟨by rw [Maps.has_put_same h1.isMap hkey];rfl,fun g' hg'=>by cases hg';rw [Maps.atKey_put_same h1.isMap hkey]⟩
 ·rw [if_neg e,Maps.has_put_other (fun h=>e (zdU hj hk h)),Maps.atKey_put_other (fun h=>e (zdU hj hk h))]
  exact h2 j hj
end Go.Proofs.YtnimaaflmdoaaaaGreatDoor.HX
