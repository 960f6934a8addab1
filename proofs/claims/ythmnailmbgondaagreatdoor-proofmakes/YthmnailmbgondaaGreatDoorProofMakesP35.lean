/- ProofMakes: part 35. -/
import Derived.Test.YthmnailmbgondaaGreatDoorProofMakesP13
import Derived.Test.YthmnailmbgondaaGreatDoorProofMakesP34
set_option maxHeartbeats 4000000
namespace Go.Proofs.YthmnailmbgondaaGreatDoor
open Go.RowKit
set_option maxRecDepth 100000
def TMADE (w:World) (G:Nat->List Int) (EN:Nat->Int) (D:Int × List Nat) (X Y:Nat) (e:Ending) (w':World):Prop:=
 Below w.heap.size w w'/\
 ((D.1≠0/\e=.returned (.tuple #[.agg #[.int .u64 0,.int .u64 0,.slice none 0 0],.int .i64 D.1]))\/
  (D.1=0/\(∀ p∈D.2,EN p=0)/\∃ u,e=.returned (.tuple #[.agg #[.int .u64 (X:Int),.int .u64 (Y:Int),u],.int .i64 0])/\w'.ownsRow w.heap.size 35 32 u D.2.length (z00 (TFL G D.2 D.2.length)))\/
  (D.1=0/\∃ j,j<D.2.length/\(∀ i,i<j->EN (D.2.getD i 0)=0)/\EN (D.2.getD j 0)≠0/\e=.returned (.tuple #[.agg #[.int .u64 0,.int .u64 0,.slice none 0 0],.int .i64 (EN (D.2.getD j 0))])))
theorem zfA (X Y:Nat) (g:Nat) (G:Nat->List Int) (EN:Nat->Int) (hG:∀ p,(G p).length=32) (w:World) (hN:z3u w g G EN (PLA Y X).2) (hT:Tabled w) (h0:0<w.heap.size):
  Calls Tryz.prog 13 #[.iface 25 (.pointer (some ⟨g,0,none⟩)),.int .u64 (Y:Int),.int .u64 (X:Int)] w (TMADE w G EN (PLA Y X) X Y):=by
 have CP:Aside (∀ W,Below w.heap.size w W->Calls Tryz.prog 42 #[.int .u64 (Y:Int),.int .u64 (X:Int)] W fun e w'=>∃ v,e=.returned (.tuple #[v,.int .i64 (PLA Y X).1])/\w'.ownsRow W.heap.size 24 1 v (PLA Y X).2.length (z06 (PLA Y X).2)/\Below W.heap.size W w'):=
  fun W h=>z8R Y X W (hT.below h0 h) (Nat.lt_of_lt_of_le h0 h.size)
 have hfew:(PLA Y X).2.length<=188:=zaJ _ _;generalize PLA Y X=D at *
 obtain ⟨E,P⟩:=D;dsimp only at *
 have HA:Aside (P.length<=188/\z3u w g G EN P/\∀ p,(G p).length=32):=⟨hfew,hN,hG⟩
 clear hfew hN hG hT h0;go_enter Tryz.func13,Tryz.ntmps13;go_wp2_with fail
 have hR:=Has.new w #[.int .u64 0,.int .u64 0,.slice none 0 0] 45;have hb0:Below w.heap.size w (w.alloc (.cells #[.int .u64 0,.int .u64 0,.slice none 0 0] 45)):=(Below.refl _ _).alloc (Nat.le_refl _) _;have hs0:(w.alloc (.cells #[.int .u64 0,.int .u64 0,.slice none 0 0] 45)).heap.size=w.heap.size+1:=by simp
 generalize w.alloc (.cells #[.int .u64 0,.int .u64 0,.slice none 0 0] 45)=w0 at *
 refine (CP.out _ hb0).mono ?_;rintro e w1 ⟨pv,rfl,hrow,hb⟩;clear CP;obtain ⟨a1,a2,a3⟩:=HA.out;have hbw:Below w.heap.size w w1:=hb0.trans (hb.mono hb0.size);have hR1:=hR.keep hb;have hsz:=hb.size;by_cases hE:E=0
 ·subst hE
  have cf:=z6G g G EN P pv _ w1 a1 a3 (fun W hW=>a2 W (hbw.trans (hW.mono hbw.size))) hrow;have S0:Aside (Below w.heap.size w w1/\Has w1 w.heap.size #[.int .u64 0,.int .u64 0,.slice none 0 0] 45/\w.heap.size<w1.heap.size):=⟨hbw,hR1,by omega⟩
  clear hR hb0 hs0 hrow hb a1 a2 a3 hbw hR1 hsz HA;go_wp2_with fail
  refine cf.mono ?_;rintro e w2 ⟨hb2,h⟩;clear cf;obtain ⟨r1,r2,r3⟩:=S0.out;have hR2:Has w2 w.heap.size #[.int .u64 0,.int .u64 0,.slice none 0 0] 45:=r2.keep hb2;have x0:w2.cell? ⟨w.heap.size,0,none⟩=some (.int .u64 0):=hR2.cell 0;have x1:w2.cell? ⟨w.heap.size,1,none⟩=some (.int .u64 0):=hR2.cell 1;have x2:w2.cell? ⟨w.heap.size,2,none⟩=some (.slice none 0 0):=hR2.cell 2;have f0:=hR2.frozen 0;have f1:=hR2.frozen 1;have f2:=hR2.frozen 2;have hbB:Below w.heap.size w w2:=r1.trans (hb2.mono r1.size);rcases h with ⟨h1,u,rfl,hu1⟩ | ⟨j,hj,hj1,hj2,rfl⟩
  ·obtain ⟨ua,uc,rfl⟩:∃ ua uc,u=.slice ua P.length uc:=by
    rcases hu1.2 with ⟨e,h0⟩ | ⟨g,cap,cur,e,_⟩
    ·exact ⟨none,0,by rw [e,h0]⟩
    ·exact ⟨_,cap,e⟩
   obtain ⟨np,hnp⟩:∃ np,P.length=np:=⟨_,rfl⟩
   rw [hnp] at hu1;have HNP:Aside (P.length=np):=hnp;generalize hU0:Value.slice ua P.length uc=u at *
   rw [hnp] at hU0;subst hU0;have hun:(Value.slice ua np uc).ownBlock≠some w.heap.size:=fun e=>by have:=(hu1.lt _ e).1;omega
   have S1:Aside (Below w.heap.size w w2/\Has w2 w.heap.size #[.int .u64 0,.int .u64 0,.slice none 0 0] 45/\(∀ p∈P,EN p=0)/\w2.ownsRow w.heap.size 35 32 (.slice ua np uc) np (z00 (TFL G P np))/\(Value.slice ua np uc).ownBlock≠some w.heap.size):=⟨hbB,hR2,h1,z0P hu1 (by omega),hun⟩
   clear hb2 r1 r2 r3 hR2 hbB h1 hu1 hun S0 hnp;go_wp2;obtain ⟨r1,r2,r3,r8,r11⟩:=S1.out;have hH:=((r2.set 0 (.int .u64 (X:Int))).set 1 (.int .u64 (Y:Int))).set 2 (.slice ua np uc);have hb:=((r1.setCell (p:=⟨w.heap.size,0,none⟩) (Nat.le_refl _) (.int .u64 (X:Int))).setCell (p:=⟨w.heap.size,1,none⟩) (Nat.le_refl _) (.int .u64 (Y:Int))).setCell (p:=⟨w.heap.size,2,none⟩) (Nat.le_refl _) (.slice ua np uc);have hU:=((r8.kept (z10 w2 w.heap.size 0 (.int .u64 (X:Int))) (.inr fun e=>r11 e)).kept (z10 _ w.heap.size 1 (.int .u64 (Y:Int))) (.inr fun e=>r11 e)).kept (z10 _ w.heap.size 2 (.slice ua np uc)) (.inr fun e=>r11 e);clear x0 x1 x2 f0 f1 f2 S1 r1 r2 r8;generalize ((w2.setCell ⟨w.heap.size,0,none⟩ (.int .u64 (X:Int))).setCell ⟨w.heap.size,1,none⟩ (.int .u64 (Y:Int))).setCell ⟨w.heap.size,2,none⟩ (.slice ua np uc)=wf at *
   have z0:wf.cell? ⟨w.heap.size,0,none⟩=some (.int .u64 (X:Int)):=hH.cell 0;have z1:wf.cell? ⟨w.heap.size,1,none⟩=some (.int .u64 (Y:Int)):=hH.cell 1;have z2:wf.cell? ⟨w.heap.size,2,none⟩=some (.slice ua np uc):=hH.cell 2;refine bodyPost_ret (v:=.tuple #[.agg #[.int .u64 (X:Int),.int .u64 (Y:Int),.slice ua np uc],.int .i64 0]) ?_ rfl ⟨hb,.inr (.inl ⟨rfl,r3,_,rfl,by rw [HNP.out];exact hU⟩)⟩;simp [results,Tryz.f13,go_sem,z0,z1,z2]
  ·have S1:Aside (Below w.heap.size w w2/\Has w2 w.heap.size #[.int .u64 0,.int .u64 0,.slice none 0 0] 45/\j<P.length/\(∀ i,i<j->EN (P.getD i 0)=0)/\EN (P.getD j 0)≠0):=⟨hbB,hR2,hj,hj1,hj2⟩
   have hE':(EN (P.getD j 0) != 0)=true:=bne_iff_ne.2 hj2;clear hb2 r1 r2 r3 hR2 hbB hj hj1 hj2 S0;obtain ⟨EE,hEE⟩:∃ EE,EN (P.getD j 0)=EE:=⟨_,rfl⟩
   rw [hEE] at hE' ⊢;have HEE:Aside (EN (P.getD j 0)=EE):=hEE;clear hEE;go_wp2;obtain ⟨r1,r2,r3,r4,r5⟩:=S1.out;have hH:=((r2.set 0 (.int .u64 0)).set 1 (.int .u64 0)).set 2 (.slice none 0 0);have hb:=((r1.setCell (p:=⟨w.heap.size,0,none⟩) (Nat.le_refl _) (.int .u64 0)).setCell (p:=⟨w.heap.size,1,none⟩) (Nat.le_refl _) (.int .u64 0)).setCell (p:=⟨w.heap.size,2,none⟩) (Nat.le_refl _) (.slice none 0 0);clear x0 x1 x2 f0 f1 f2 S1 r1 r2;generalize ((w2.setCell ⟨w.heap.size,0,none⟩ (.int .u64 0)).setCell ⟨w.heap.size,1,none⟩ (.int .u64 0)).setCell ⟨w.heap.size,2,none⟩ (.slice none 0 0)=wf at *
   have z0:wf.cell? ⟨w.heap.size,0,none⟩=some (.int .u64 0):=hH.cell 0;have z1:wf.cell? ⟨w.heap.size,1,none⟩=some (.int .u64 0):=hH.cell 1;have z2:wf.cell? ⟨w.heap.size,2,none⟩=some (.slice none 0 0):=hH.cell 2;refine bodyPost_ret (v:=.tuple #[.agg #[.int .u64 0,.int .u64 0,.slice none 0 0],.int .i64 EE]) ?_ rfl ⟨hb,.inr (.inr ⟨rfl,j,r3,r4,r5,by rw [HEE.out]⟩)⟩;simp [results,Tryz.f13,go_sem,z0,z1,z2]
 ·have hE':(E != 0)=true:=by simp [hE]
  have x0:w1.cell? ⟨w.heap.size,0,none⟩=some (.int .u64 0):=hR1.cell 0;have x1:w1.cell? ⟨w.heap.size,1,none⟩=some (.int .u64 0):=hR1.cell 1;have x2:w1.cell? ⟨w.heap.size,2,none⟩=some (.slice none 0 0):=hR1.cell 2;have f0:=hR1.frozen 0;have f1:=hR1.frozen 1;have f2:=hR1.frozen 2;have S0:Aside (Below w.heap.size w w1/\Has w1 w.heap.size #[.int .u64 0,.int .u64 0,.slice none 0 0] 45/\¬ E=0):=⟨hbw,hR1,hE⟩
  clear hR hb0 hs0 hrow hb a1 a2 a3 hbw hR1 hsz HA hE;go_wp2;obtain ⟨r1,r2,r3⟩:=S0.out;have hH:=((r2.set 0 (.int .u64 0)).set 1 (.int .u64 0)).set 2 (.slice none 0 0);have hb:=((r1.setCell (p:=⟨w.heap.size,0,none⟩) (Nat.le_refl _) (.int .u64 0)).setCell (p:=⟨w.heap.size,1,none⟩) (Nat.le_refl _) (.int .u64 0)).setCell (p:=⟨w.heap.size,2,none⟩) (Nat.le_refl _) (.slice none 0 0);clear x0 x1 x2 f0 f1 f2 S0 r1 r2;generalize ((w1.setCell ⟨w.heap.size,0,none⟩ (.int .u64 0)).setCell ⟨w.heap.size,1,none⟩ (.int .u64 0)).setCell ⟨w.heap.size,2,none⟩ (.slice none 0 0)=wf at *
  have z0:wf.cell? ⟨w.heap.size,0,none⟩=some (.int .u64 0):=hH.cell 0;have z1:wf.cell? ⟨w.heap.size,1,none⟩=some (.int .u64 0):=hH.cell 1;have z2:wf.cell? ⟨w.heap.size,2,none⟩=some (.slice none 0 0):=hH.cell 2;refine bodyPost_ret (v:=.tuple #[.agg #[.int .u64 0,.int .u64 0,.slice none 0 0],.int .i64 E]) ?_ rfl ⟨hb,.inl ⟨r3,rfl⟩⟩;simp [results,Tryz.f13,go_sem,z0,z1,z2]
theorem z7a (X Y:Nat) (g:Nat) (G:Nat->List Int) (EN:Nat->Int) (hG:∀ p,(G p).length=32) (w:World) (hN:z3u w g G EN (PPA X Y).2) (hT:Tabled w) (h0:0<w.heap.size):
  Calls Tryz.prog 16 #[.iface 25 (.pointer (some ⟨g,0,none⟩)),.int .u64 (X:Int),.int .u64 (Y:Int)] w (TMADE w G EN (PPA X Y) X Y):=by
 have CP:Aside (∀ W,Below w.heap.size w W->Calls Tryz.prog 46 #[.int .u64 (X:Int),.int .u64 (Y:Int)] W fun e w'=>∃ v,e=.returned (.tuple #[v,.int .i64 (PPA X Y).1])/\w'.ownsRow W.heap.size 24 1 v (PPA X Y).2.length (z06 (PPA X Y).2)/\Below W.heap.size W w'):=
  fun W h=>zhl X Y W (hT.below h0 h) (Nat.lt_of_lt_of_le h0 h.size)
 have hfew:(PPA X Y).2.length<=188:=zaK _ _;generalize PPA X Y=D at *
 obtain ⟨E,P⟩:=D;dsimp only at *
 have HA:Aside (P.length<=188/\z3u w g G EN P/\∀ p,(G p).length=32):=⟨hfew,hN,hG⟩
 clear hfew hN hG hT h0;go_enter Tryz.func16,Tryz.ntmps16;go_wp2_with fail
 have hR:=Has.new w #[.int .u64 0,.int .u64 0,.slice none 0 0] 50;have hb0:Below w.heap.size w (w.alloc (.cells #[.int .u64 0,.int .u64 0,.slice none 0 0] 50)):=(Below.refl _ _).alloc (Nat.le_refl _) _;have hs0:(w.alloc (.cells #[.int .u64 0,.int .u64 0,.slice none 0 0] 50)).heap.size=w.heap.size+1:=by simp
 generalize w.alloc (.cells #[.int .u64 0,.int .u64 0,.slice none 0 0] 50)=w0 at *
 refine (CP.out _ hb0).mono ?_;rintro e w1 ⟨pv,rfl,hrow,hb⟩;clear CP;obtain ⟨a1,a2,a3⟩:=HA.out;have hbw:Below w.heap.size w w1:=hb0.trans (hb.mono hb0.size);have hR1:=hR.keep hb;have hsz:=hb.size;by_cases hE:E=0
 ·subst hE
  have cf:=z6G g G EN P pv _ w1 a1 a3 (fun W hW=>a2 W (hbw.trans (hW.mono hbw.size))) hrow;have S0:Aside (Below w.heap.size w w1/\Has w1 w.heap.size #[.int .u64 0,.int .u64 0,.slice none 0 0] 50/\w.heap.size<w1.heap.size):=⟨hbw,hR1,by omega⟩
  clear hR hb0 hs0 hrow hb a1 a2 a3 hbw hR1 hsz HA;go_wp2_with fail
  refine cf.mono ?_;rintro e w2 ⟨hb2,h⟩;clear cf;obtain ⟨r1,r2,r3⟩:=S0.out;have hR2:Has w2 w.heap.size #[.int .u64 0,.int .u64 0,.slice none 0 0] 50:=r2.keep hb2;have x0:w2.cell? ⟨w.heap.size,0,none⟩=some (.int .u64 0):=hR2.cell 0;have x1:w2.cell? ⟨w.heap.size,1,none⟩=some (.int .u64 0):=hR2.cell 1;have x2:w2.cell? ⟨w.heap.size,2,none⟩=some (.slice none 0 0):=hR2.cell 2;have f0:=hR2.frozen 0;have f1:=hR2.frozen 1;have f2:=hR2.frozen 2;have hbB:Below w.heap.size w w2:=r1.trans (hb2.mono r1.size);rcases h with ⟨h1,u,rfl,hu1⟩ | ⟨j,hj,hj1,hj2,rfl⟩
  ·obtain ⟨ua,uc,rfl⟩:∃ ua uc,u=.slice ua P.length uc:=by
    rcases hu1.2 with ⟨e,h0⟩ | ⟨g,cap,cur,e,_⟩
    ·exact ⟨none,0,by rw [e,h0]⟩
    ·exact ⟨_,cap,e⟩
   obtain ⟨np,hnp⟩:∃ np,P.length=np:=⟨_,rfl⟩
   rw [hnp] at hu1;have HNP:Aside (P.length=np):=hnp;generalize hU0:Value.slice ua P.length uc=u at *
   rw [hnp] at hU0;subst hU0;have hun:(Value.slice ua np uc).ownBlock≠some w.heap.size:=fun e=>by have:=(hu1.lt _ e).1;omega
   have S1:Aside (Below w.heap.size w w2/\Has w2 w.heap.size #[.int .u64 0,.int .u64 0,.slice none 0 0] 50/\(∀ p∈P,EN p=0)/\w2.ownsRow w.heap.size 35 32 (.slice ua np uc) np (z00 (TFL G P np))/\(Value.slice ua np uc).ownBlock≠some w.heap.size):=⟨hbB,hR2,h1,z0P hu1 (by omega),hun⟩
   clear hb2 r1 r2 r3 hR2 hbB h1 hu1 hun S0 hnp;go_wp2;obtain ⟨r1,r2,r3,r8,r11⟩:=S1.out;have hH:=((r2.set 0 (.int .u64 (X:Int))).set 1 (.int .u64 (Y:Int))).set 2 (.slice ua np uc);have hb:=((r1.setCell (p:=⟨w.heap.size,0,none⟩) (Nat.le_refl _) (.int .u64 (X:Int))).setCell (p:=⟨w.heap.size,1,none⟩) (Nat.le_refl _) (.int .u64 (Y:Int))).setCell (p:=⟨w.heap.size,2,none⟩) (Nat.le_refl _) (.slice ua np uc);have hU:=((r8.kept (z10 w2 w.heap.size 0 (.int .u64 (X:Int))) (.inr fun e=>r11 e)).kept (z10 _ w.heap.size 1 (.int .u64 (Y:Int))) (.inr fun e=>r11 e)).kept (z10 _ w.heap.size 2 (.slice ua np uc)) (.inr fun e=>r11 e);clear x0 x1 x2 f0 f1 f2 S1 r1 r2 r8;generalize ((w2.setCell ⟨w.heap.size,0,none⟩ (.int .u64 (X:Int))).setCell ⟨w.heap.size,1,none⟩ (.int .u64 (Y:Int))).setCell ⟨w.heap.size,2,none⟩ (.slice ua np uc)=wf at *
   have z0:wf.cell? ⟨w.heap.size,0,none⟩=some (.int .u64 (X:Int)):=hH.cell 0;have z1:wf.cell? ⟨w.heap.size,1,none⟩=some (.int .u64 (Y:Int)):=hH.cell 1;have z2:wf.cell? ⟨w.heap.size,2,none⟩=some (.slice ua np uc):=hH.cell 2;refine bodyPost_ret (v:=.tuple #[.agg #[.int .u64 (X:Int),.int .u64 (Y:Int),.slice ua np uc],.int .i64 0]) ?_ rfl ⟨hb,.inr (.inl ⟨rfl,r3,_,rfl,by rw [HNP.out];exact hU⟩)⟩;simp [results,Tryz.f16,go_sem,z0,z1,z2]
  ·have S1:Aside (Below w.heap.size w w2/\Has w2 w.heap.size #[.int .u64 0,.int .u64 0,.slice none 0 0] 50/\j<P.length/\(∀ i,i<j->EN (P.getD i 0)=0)/\EN (P.getD j 0)≠0):=⟨hbB,hR2,hj,hj1,hj2⟩
   have hE':(EN (P.getD j 0) != 0)=true:=bne_iff_ne.2 hj2;clear hb2 r1 r2 r3 hR2 hbB hj hj1 hj2 S0;obtain ⟨EE,hEE⟩:∃ EE,EN (P.getD j 0)=EE:=⟨_,rfl⟩
   rw [hEE] at hE' ⊢;have HEE:Aside (EN (P.getD j 0)=EE):=hEE;clear hEE;go_wp2;obtain ⟨r1,r2,r3,r4,r5⟩:=S1.out;have hH:=((r2.set 0 (.int .u64 0)).set 1 (.int .u64 0)).set 2 (.slice none 0 0);have hb:=((r1.setCell (p:=⟨w.heap.size,0,none⟩) (Nat.le_refl _) (.int .u64 0)).setCell (p:=⟨w.heap.size,1,none⟩) (Nat.le_refl _) (.int .u64 0)).setCell (p:=⟨w.heap.size,2,none⟩) (Nat.le_refl _) (.slice none 0 0);clear x0 x1 x2 f0 f1 f2 S1 r1 r2;generalize ((w2.setCell ⟨w.heap.size,0,none⟩ (.int .u64 0)).setCell ⟨w.heap.size,1,none⟩ (.int .u64 0)).setCell ⟨w.heap.size,2,none⟩ (.slice none 0 0)=wf at *
   have z0:wf.cell? ⟨w.heap.size,0,none⟩=some (.int .u64 0):=hH.cell 0;have z1:wf.cell? ⟨w.heap.size,1,none⟩=some (.int .u64 0):=hH.cell 1;have z2:wf.cell? ⟨w.heap.size,2,none⟩=some (.slice none 0 0):=hH.cell 2;refine bodyPost_ret (v:=.tuple #[.agg #[.int .u64 0,.int .u64 0,.slice none 0 0],.int .i64 EE]) ?_ rfl ⟨hb,.inr (.inr ⟨rfl,j,r3,r4,r5,by rw [HEE.out]⟩)⟩;simp [results,Tryz.f16,go_sem,z0,z1,z2]
 ·have hE':(E != 0)=true:=by simp [hE]
  have x0:w1.cell? ⟨w.heap.size,0,none⟩=some (.int .u64 0):=hR1.cell 0;have x1:w1.cell? ⟨w.heap.size,1,none⟩=some (.int .u64 0):=hR1.cell 1;have x2:w1.cell? ⟨w.heap.size,2,none⟩=some (.slice none 0 0):=hR1.cell 2;have f0:=hR1.frozen 0;have f1:=hR1.frozen 1;have f2:=hR1.frozen 2;have S0:Aside (Below w.heap.size w w1/\Has w1 w.heap.size #[.int .u64 0,.int .u64 0,.slice none 0 0] 50/\¬ E=0):=⟨hbw,hR1,hE⟩
  clear hR hb0 hs0 hrow hb a1 a2 a3 hbw hR1 hsz HA hE;go_wp2;obtain ⟨r1,r2,r3⟩:=S0.out;have hH:=((r2.set 0 (.int .u64 0)).set 1 (.int .u64 0)).set 2 (.slice none 0 0);have hb:=((r1.setCell (p:=⟨w.heap.size,0,none⟩) (Nat.le_refl _) (.int .u64 0)).setCell (p:=⟨w.heap.size,1,none⟩) (Nat.le_refl _) (.int .u64 0)).setCell (p:=⟨w.heap.size,2,none⟩) (Nat.le_refl _) (.slice none 0 0);clear x0 x1 x2 f0 f1 f2 S0 r1 r2;generalize ((w1.setCell ⟨w.heap.size,0,none⟩ (.int .u64 0)).setCell ⟨w.heap.size,1,none⟩ (.int .u64 0)).setCell ⟨w.heap.size,2,none⟩ (.slice none 0 0)=wf at *
  have z0:wf.cell? ⟨w.heap.size,0,none⟩=some (.int .u64 0):=hH.cell 0;have z1:wf.cell? ⟨w.heap.size,1,none⟩=some (.int .u64 0):=hH.cell 1;have z2:wf.cell? ⟨w.heap.size,2,none⟩=some (.slice none 0 0):=hH.cell 2;refine bodyPost_ret (v:=.tuple #[.agg #[.int .u64 0,.int .u64 0,.slice none 0 0],.int .i64 E]) ?_ rfl ⟨hb,.inl ⟨r3,rfl⟩⟩;simp [results,Tryz.f16,go_sem,z0,z1,z2]
end Go.Proofs.YthmnailmbgondaaGreatDoor
namespace Go.Proofs.YthmnailmbgondaaGreatDoor.HX
open Go.RowKit
set_option maxRecDepth 100000
def PKV (d:Int) (f:Nat->Nat->Nat) (m:Nat):List (Nat->Nat):=(HS 0 m).map fun h=>VAL d f h (2*(m / 2 ^ (h+1)))
theorem zdN {m h:Nat} (hb:m / 2 ^ h % 2=1):(2*(m / 2 ^ (h+1))+1)*2 ^ h<=m:=by
 have e:m / 2 ^ h=2*(m / 2 ^ (h+1))+1:=by rw [z0r];omega
 rw [<-e];exact Nat.div_mul_le_self m (2 ^ h)
theorem FOREST.peak {w:World} {B g:Nat} {d:Int} {log n:Nat} {C:z02} {f:Nat->Nat->Nat} (hF:FOREST w B g d log n C f) {m i h:Nat} (hm:m<=n) (hi:(HS 0 m)[i]?=some h):
  PKP m h<2 ^ 40/\GOTH C log (z01 n) (PKP m h)=VAL d f h (2*(m / 2 ^ (h+1)))/\GOT C log (z01 n) (PKP m h)=0/\(z0T m)[i]?=some (PKP m h)/\(PKV d f m)[i]?=some (VAL d f h (2*(m / 2 ^ (h+1)))):=by
 have hb:=(z7u 0 h (by decide) (List.mem_of_getElem? hi)).2.2;have hs:=Nat.le_trans (zdN hb) hm;have hlt:PKP m h<z01 n:=z3q hs;have hat:AT C log (PKP m h)=some (VAL d f h (2*(m / 2 ^ (h+1)))):=hF.node h _ hs;have:=hF.store.short;refine ⟨by omega,?_,?_,?_,?_⟩
 ·unfold GOTH
  rw [if_pos hlt,hat];rfl
 ·unfold GOT
  rw [if_pos hlt,hat];rfl
 ·rw [z0T,List.getElem?_map,hi]
  rfl
 ·rw [PKV,List.getElem?_map,hi]
  rfl
end Go.Proofs.YthmnailmbgondaaGreatDoor.HX
namespace Go.Proofs.YthmnailmbgondaaGreatDoor
open Go.RowKit
set_option maxRecDepth 100000
def TVAL (d:Int) (f:Nat->Nat->Nat) (h k:Nat):List Int:=LST (HX.VAL d f h k)
theorem zaU {d:Int} {f:Nat->Nat->Nat} {n h k:Nat} (hf:∀ k,k<n->∀ i,f k i<256) (hk:(k+1)*2 ^ h<=n):IsH (TVAL d f h k):=zdz fun i=>HX.z4K hf h k hk i
theorem z98 {w:World} {B g:Nat} {d:Int} {log n h k:Nat} {C:HX.z02} {f:Nat->Nat->Nat} (hF:HX.FOREST w B g d log n C f) (hs:(k+1)*2 ^ h<=n):HX.GOTH C log (z01 n) (PLC h k)=HX.VAL d f h k/\HX.GOT C log (z01 n) (PLC h k)=0:=by
 have h1:=z73 hs;unfold HX.GOTH HX.GOT;rw [if_pos h1,if_pos h1,hF.node h k hs];exact ⟨rfl,rfl⟩
def INN (ss:List (Nat × Nat)) (n:Nat):Prop:=∀ s∈ss,(s.2+1)*2 ^ s.1<=n
theorem zfB {ss:List (Nat × Nat)} {p:Nat} (h:p∈PLCS ss):∃ s∈ss,p=PLC s.1 s.2:=by
 unfold PLCS at h;obtain ⟨s,hs,e⟩:=List.mem_map.1 h;exact ⟨s,hs,e.symm⟩
theorem z99 {w:World} {B g:Nat} {d:Int} {log n:Nat} {C:HX.z02} {f:Nat->Nat->Nat} (hF:HX.FOREST w B g d log n C f):∀ (ss:List (Nat × Nat)),INN ss n->∀ j,j<=ss.length->TFL (fun p=>LST (HX.GOTH C log (z01 n) p)) (PLCS ss) j=CAT (TVAL d f) (ss.take j)
 | ss,hs,0,_=>by simp [TFL,CAT]
 | ss,hs,j+1,hj=>by
   obtain ⟨s,e⟩:∃ s,ss[j]?=some s:=⟨_,List.getElem?_eq_getElem (by omega)⟩
   obtain ⟨h,k⟩:=s;rw [z97,z99 hF ss hs j (by omega),zfb e,zaE e,(z98 hF (hs _ (List.mem_of_getElem? e))).1];rfl
def zhx (w:World) (d:Int) (f:Nat->Nat->Nat) (ss:List (Nat × Nat)) (X Y:Nat) (e:Ending) (w':World):Prop:=
 ∃ a c,e=.returned (.tuple #[.agg #[.int .u64 (X:Int),.int .u64 (Y:Int),.slice a ss.length c],.int .i64 0])/\w'.ownsRow w.heap.size 35 32 (.slice a ss.length c) ss.length (z00 (CAT (TVAL d f) ss))/\Below w.heap.size w w'
theorem TMADE.tree {w0 w w':World} {B g:Nat} {d:Int} {log n:Nat} {C:HX.z02} {f:Nat->Nat->Nat} (hF:HX.FOREST w0 B g d log n C f) {ss:List (Nat × Nat)} (hs:INN ss n) {X Y:Nat} {e:Ending} (h:TMADE w (fun p=>LST (HX.GOTH C log (z01 n) p)) (HX.GOT C log (z01 n)) (0,PLCS ss) X Y e w'):zhx w d f ss X Y e w':=by
 obtain ⟨hb,h⟩:=h
 have hz:∀ p∈PLCS ss,HX.GOT C log (z01 n) p=0:=fun p hp=>by
  obtain ⟨s,h1,rfl⟩:=zfB hp;exact (z98 hF (hs s h1)).2
 rcases h with ⟨h1,_⟩ | ⟨_,_,u,rfl,hu⟩ | ⟨_,j,hj,_,h1,_⟩
 ·exact absurd rfl h1
 ·dsimp only at hu
  rw [z1D,z99 hF ss hs _ (Nat.le_refl _),List.take_length] at hu;rcases hu.2 with ⟨e,h0⟩ | ⟨g,cap,cur,e,_⟩
  ·subst e
   refine ⟨none,0,by rw [h0],?_,hb⟩;rw [h0] at hu ⊢;exact hu
  ·subst e
   exact ⟨_,cap,rfl,hu,hb⟩
 ·refine absurd (hz _ ?_) h1
  dsimp only at hj ⊢;rw [List.getD_eq_getElem?_getD,List.getElem?_eq_getElem hj];exact List.getElem_mem _
def HOW (P:Nat->Bool):Nat->Nat
 | 0=>0
 | n+1=>HOW P n+if P n then 1 else 0
theorem zaV {P:Nat->Bool}:∀ {n:Nat},(∀ p,p<n->P p=true)->HOW P n=n
 | 0,_=>rfl
 | n+1,h=>by rw [HOW,zaV fun p hp=>h p (by omega),h n (by omega)];rfl
theorem z7N {P Q:Nat->Bool}:∀ {n:Nat},(∀ p,p<n->P p=Q p)->HOW P n=HOW Q n
 | 0,_=>rfl
 | n+1,h=>by rw [HOW,HOW,z7N fun p hp=>h p (by omega),h n (by omega)]
theorem zdO (P:Nat->Bool):∀ n,HOW P n<=n
 | 0=>Nat.le_refl _
 | n+1=>by
   have:=zdO P n;rw [HOW];split <;> omega
theorem z5T {P Q:Nat->Bool} {p:Nat} (hP:P p=true) (hQ:Q p=false) (he:∀ q,q≠p->Q q=P q):∀ {n:Nat},p<n->HOW Q n+1=HOW P n
 | 0,h=>by omega
 | n + 1,h=>by
   rw [HOW,HOW];by_cases e:p=n
   ·subst e
    rw [hP,hQ,z7N (P:=Q) (Q:=P) fun q hq=>he q (by omega)];rfl
   ·have:=z5T hP hQ he (n:=n) (by omega)
    rw [he n (fun e'=>e e'.symm)];omega
structure TWIN (C:HX.z02) (log len alive:Nat) (l:List RND):Prop where
 long:l.length=len
 yes:∀ p f,p<len->HX.AT C log p=some f->l[p]?=some ⟨LST f,true,0⟩
 no:∀ p,p<len->HX.AT C log p=none->l[p]?=some ZRN
 count:alive=HOW (fun p=>(HX.AT C log p).isSome) len
theorem TWIN.got {C:HX.z02} {log len alive:Nat} {l:List RND} (h:TWIN C log len alive l) (p:Nat):HX.GOT C log len p=(RGOT l p).1/\LST (HX.GOTH C log len p)=(RGOT l p).2:=by
 unfold HX.GOT HX.GOTH RGOT;by_cases hp:p<len
 ·rw [if_pos hp,if_pos hp]
  cases hA:HX.AT C log p with
  | none=>rw [h.no p hp hA];exact ⟨rfl,rfl⟩
  | some f=>rw [h.yes p f hp hA];exact ⟨rfl,rfl⟩
 ·rw [if_neg hp,if_neg hp,List.getElem?_eq_none (by rw [h.long];omega)]
  exact ⟨rfl,rfl⟩
theorem TWIN.far {C:HX.z02} {log len alive p:Nat} {l:List RND} (h:TWIN C log len alive l) (hp:len<=p):RDRP l p=31:=by
 unfold RDRP;rw [List.getElem?_eq_none (by rw [h.long];exact hp)]
theorem TWIN.near {C:HX.z02} {log len alive p:Nat} {l:List RND} (h:TWIN C log len alive l) (hp:p<len):RDRP l p=0:=by
 unfold RDRP;cases hA:HX.AT C log p with
 | none=>rw [h.no p hp hA];rfl
 | some f=>rw [h.yes p f hp hA];rfl
theorem TWIN.dead {C:HX.z02} {log len alive p:Nat} {l:List RND} (h:TWIN C log len alive l) (hp:p<len) (hA:HX.AT C log p=none):TWIN C log len alive (l.set p ZRN):=by
 have e:l.set p ZRN=l:=by
  have:=h.no p hp hA;obtain ⟨h1,h2⟩:=List.getElem?_eq_some_iff.1 this;rw [<-h2,List.set_getElem_self]
 rw [e];exact h
theorem TWIN.drop {C C':HX.z02} {log len alive p:Nat} {l:List RND} {f:Nat->Nat} (h:TWIN C log len alive l) (hp:p<len) (hA:HX.AT C log p=some f) (hC:∀ q,HX.AT C' log q=if q=p then none else HX.AT C log q):alive - 1+1=alive/\TWIN C' log len (alive - 1) (l.set p ZRN):=by
 have hc:=z5T (P:=fun p=>(HX.AT C log p).isSome) (Q:=fun p=>(HX.AT C' log p).isSome) (p:=p) (by simp [hA]) (by simp [hC]) (fun q hq=>by simp [hC,hq]) hp;have ha:=h.count;refine ⟨by omega,⟨by rw [List.length_set];exact h.long,fun q g hq hg=>?_,fun q hq hg=>?_,by omega⟩⟩
 ·rw [hC] at hg
  by_cases e:q=p
  ·rw [if_pos e] at hg;cases hg
  ·rw [if_neg e] at hg
   rw [List.getElem?_set_ne (fun x=>e x.symm)];exact h.yes q g hq hg
 ·rw [hC] at hg
  by_cases e:q=p
  ·subst e
   rw [List.getElem?_set_self (by rw [h.long];exact hq)]
  ·rw [if_neg e] at hg
   rw [List.getElem?_set_ne (fun x=>e x.symm)];exact h.no q hq hg
def RBK (gt gs:Nat) (v:Value) (x:Nat):Prop:=x=gt\/x=gs\/v.ownBlock=some x
structure SIDES (w0 wx:World) (g:Nat) (C:HX.z02) (B2 gt gs:Nat) (D:Int) (n:Nat) (l:List RND) (a:Option Addr) (c:Nat):Prop where
 pin:wx.cell? ⟨g,4,none⟩=some (.map none)
 rt:RTREE wx B2 gt gs D n l a c
 off:∀ x,RBK gt gs (.slice a l.length c) x->x≠g/\¬ HX.FOOT wx g C x
 bel:Below w0.heap.size w0 wx
 lo:w0.heap.size<=B2
theorem RTREE.blk {w:World} {B gt gs n c x:Nat} {D:Int} {l:List RND} {a:Option Addr} (h:RTREE w B gt gs D n l a c) (hx:RBK gt gs (.slice a l.length c) x):x<w.heap.size:=by
 rcases hx with rfl | rfl | hx
 ·exact h.box.lt
 ·exact h.store.box.lt
 ·exact (h.store.own.lt x hx).2
theorem SIDES.step {w0 wx w':World} {g B2 gt gs n c:Nat} {C C':HX.z02} {D:Int} {l:List RND} {a:Option Addr} (h:SIDES w0 wx g C B2 gt gs D n l a c) (hst:HX.TSTEP wx w' g C C') (hb:Below w0.heap.size wx w'):SIDES w0 w' g C' B2 gt gs D n l a c:=by
 have one:∀ x,RBK gt gs (.slice a l.length c) x->w'.heap[x]?=wx.heap[x]?:=fun x hx=>hst.same x (h.rt.blk hx) (h.off x hx).1 (h.off x hx).2;refine ⟨hst.pin.trans h.pin,h.rt.keep (one gt (.inl rfl)) (one gs (.inr (.inl rfl))) (fun k e=>one k (.inr (.inr e))),fun x hx=>⟨(h.off x hx).1,fun hf=>?_⟩,h.bel.trans hb,h.lo⟩;rcases hst.foot x hf with h1 | h1
 ·exact (h.off x hx).2 h1
 ·have:=h.rt.blk hx
  omega
theorem SIDES.below {w0 wx w':World} {g B2 gt gs n c B log len alive N:Nat} {C:HX.z02} {D:Int} {l:List RND} {a:Option Addr} (h:SIDES w0 wx g C B2 gt gs D n l a c) (hS:HX.STORE wx B g log len alive N C) (hb:Below wx.heap.size wx w'):SIDES w0 w' g C B2 gt gs D n l a c:=
 h.step (HX.STEP.below hS hb).tree (hb.mono h.bel.size)
theorem SIDES.pins {w0 wx:World} {g B2 gt gs n c B:Nat} {C:HX.z02} {D:Int} {l:List RND} {a:Option Addr} (h:SIDES w0 wx g C B2 gt gs D n l a c):HX.PINS wx B g 0 C (fun _=>0):=
 ⟨⟨none,h.pin,fun _ _=>rfl,fun b e=>by cases e⟩⟩
theorem SIDES.rdrop {w0 wx w':World} {g B2 gt gs n c B log len alive N:Nat} {C:HX.z02} {D:Int} {l l':List RND} {a:Option Addr} (h:SIDES w0 wx g C B2 gt gs D n l a c) (hS:HX.STORE wx B g log len alive N C) (hl:l'.length=l.length) (hR:RSTORE w' B2 gs 3 l' a c) (hg:wx.grownBy w' (Value.slice a l.length c).ownBlock):HX.STORE w' B g log len alive N C/\SIDES w0 w' g C B2 gt gs D n l' a c:=by
 have one:∀ x,x<wx.heap.size->(Value.slice a l.length c).ownBlock≠some x->w'.heap[x]?=wx.heap[x]?:=fun x hx hne=>hg.block x hx (fun e=>hne e.symm);have hG:w'.heap[g]?=wx.heap[g]?:=one g hS.lt fun e=>(h.off g (.inr (.inr e))).1 rfl;obtain ⟨k1,k2,k3⟩:=hS.held hG (fun x hf=>one x (hS.foot_lt hf) fun e=>(h.off x (.inr (.inr e))).2 hf);refine ⟨k1,(k3 4).trans h.pin,⟨(one gt h.rt.box.lt h.rt.nt).trans h.rt.box,hR,h.rt.ne,by rw [hl];exact h.rt.nt,h.rt.base⟩,fun x hx=>?_,h.bel.trans ⟨hg.os,hg.tape,hg.output,hg.size,fun x hx=>one x (Nat.lt_of_lt_of_le hx h.bel.size) fun e=>?_⟩,h.lo⟩
 ·rw [hl] at hx
  exact ⟨(h.off x hx).1,fun hf=>(h.off x hx).2 (k2 x hf)⟩
 ·have:=(h.rt.store.own.lt x e).1
  have:=h.lo;omega
theorem z6H {n p:Nat} (hn:n<=2 ^ 20) (hp:p<z01 n):∃ h k,p=PLC h k/\(k+1)*2 ^ h<=n:=by
 have hb:=z2w (n:=n) (h:=21) (by omega);obtain ⟨h,k,hN,e⟩:=Node.of (p:=p) (by omega);refine ⟨h,k,e,?_⟩;rcases Nat.lt_or_ge n ((k+1)*2 ^ h) with h1 | h1
 ·have h2:=z43 h k
  have h3:z01 n<=z01 ((k+1)*2 ^ h - 1):=z42 (by omega);omega
 ·exact h1
theorem zgM {w:World} {B g n:Nat} {d:Int} {log:Nat} {C:HX.z02} {f:Nat->Nat->Nat} {l:List RND} (hF:HX.FOREST w B g d log n C f) (hl:l.length=z01 n) (hn:∀ h k,(k+1)*2 ^ h<=n->l[PLC h k]?=some ⟨TVAL d f h k,true,0⟩):TWIN C log (z01 n) (z01 n) l:=by
 have hp:=fun p (h:p<z01 n)=>z6H hF.few h;refine ⟨hl,fun p x hx hA=>?_,fun p hx hA=>?_,(zaV fun p hx=>?_).symm⟩
 ·obtain ⟨h,k,rfl,hk⟩:=hp p hx
  rw [hF.node h k hk] at hA;cases hA;exact hn h k hk
 ·obtain ⟨h,k,rfl,hk⟩:=hp p hx
  rw [hF.node h k hk] at hA;cases hA
 ·obtain ⟨h,k,rfl,hk⟩:=hp p hx
  show (HX.AT C log (PLC h k)).isSome=true;rw [hF.node h k hk];rfl
theorem z5U:∀ x∈ZRN.hash,0<=x/\x<=255:=by decide
structure BOTHD (w wx:World) (g log len N B2 gt gs:Nat) (D:Int) (n:Nat) (a:Option Addr) (c:Nat) (l:List RND) (C:HX.z02) (alive:Nat):Prop where
 st:HX.STORE wx w.heap.size g log len alive N C
 sd:SIDES w wx g C B2 gt gs D n l a c
 tw:TWIN C log len alive l
 byte:∀ v∈l,∀ x∈v.hash,0<=x/\x<=255
theorem BOTHD.below {w wx w':World} {g log len N B2 gt gs n c alive:Nat} {D:Int} {a:Option Addr} {l:List RND} {C:HX.z02} (h:BOTHD w wx g log len N B2 gt gs D n a c l C alive) (hb:Below wx.heap.size wx w'):BOTHD w w' g log len N B2 gt gs D n a c l C alive:=
 ⟨h.st.below hb,h.sd.below h.st hb,h.tw,h.byte⟩
def zc9 (w wx:World) (g log len N B2 gt gs:Nat) (D:Int) (n:Nat) (a:Option Addr) (c:Nat) (l:List RND) (p:Nat):Prop:=
 ∃ C alive,HX.STORE wx w.heap.size g log len alive N C/\SIDES w wx g C B2 gt gs D n l a c/\TWIN C log len alive (if RDRP l p=0 then l.set p ZRN else l)/\∀ v∈l,∀ x∈v.hash,0<=x/\x<=255
theorem zca {w wx:World} {g log len N B2 gt gs n c alive:Nat} {D:Int} {a:Option Addr} {l:List RND} {C:HX.z02} (h:BOTHD w wx g log len N B2 gt gs D n a c l C alive) (p:Nat) (hp:p<2 ^ 64) (hg:w.heap.size<=g) (hlen:len<2 ^ 40):
  Calls Tryz.prog 9 #[.pointer (some ⟨g,0,none⟩),.int .u64 (p:Int)] wx fun e w'=>e=.returned (.int .i64 (RDRP l p))/\zc9 w w' g log len N B2 gt gs D n a c l p:=by
 by_cases hl:p<len
 ·have h0:=h.tw.near hl
  cases hA:HX.AT C log p with
  | none=>
    refine (HX.zcL h.st h.sd.pins p hp hl rfl hA).mono ?_;rintro e w' ⟨rfl,hb⟩;refine ⟨by rw [h0],C,alive,h.st.below hb,h.sd.below h.st hb,?_,h.byte⟩;rw [if_pos h0];exact h.tw.dead hl hA
  | some f=>
    have hc:=h.tw.count;have hle:=zdO (fun p=>(HX.AT C log p).isSome) len
    have hal:alive - 1+1=alive:=by
     have:=z5T (P:=fun p=>(HX.AT C log p).isSome) (Q:=fun q=>if q=p then false else (HX.AT C log q).isSome) (p:=p) (by simp [hA]) (by simp) (fun q hq=>by simp [hq]) hl;omega
    refine (HX.zcM h.st h.sd.pins p (alive - 1) f hp hl rfl hA hal (by omega) hg).mono ?_;rintro e w' ⟨rfl,C',s1,s2,s3,s4,s5⟩;refine ⟨by rw [h0],C',alive - 1,s1,h.sd.step s4.tree s5,?_,h.byte⟩;rw [if_pos h0];exact (h.tw.drop hl hA s2).2
 ·have h0:=h.tw.far (p:=p) (by omega)
  refine (HX.zer h.st p (by omega)).mono ?_;rintro e w' ⟨rfl,rfl⟩;refine ⟨by rw [h0],C,alive,h.st,h.sd,?_,h.byte⟩;rw [if_neg (by rw [h0];decide)];exact h.tw
theorem za5 {w wx:World} {g log len N B2 gt gs n c:Nat} {D:Int} {a:Option Addr} {l:List RND} (p:Nat) (h:zc9 w wx g log len N B2 gt gs D n a c l p):
  Calls Tryz.prog 10 #[.pointer (some ⟨gs,0,none⟩),.int .u64 (p:Int)] wx fun e w'=>e=.returned (.int .i64 (RDRP l p))/\∃ l' C alive,BOTHD w w' g log len N B2 gt gs D n a c l' C alive:=by
 obtain ⟨C,alive,h1,h2,h3,h4⟩:=h;refine (zff h2.rt.store p).mono ?_;rintro e w' ⟨rfl,k1,k2⟩;obtain ⟨m1,m2⟩:=h2.rdrop h1 (l':=if RDRP l p=0 then l.set p ZRN else l) (by split <;> simp) k1 k2;refine ⟨rfl,_,C,alive,m1,m2,h3,fun v hv=>?_⟩;split at hv
 ·rcases List.mem_or_eq_of_mem_set hv with hv | rfl
  ·exact h4 v hv
  ·exact z5U
 ·exact h4 v hv
theorem BOTHD.noded {w wx:World} {g log len N B2 gt gs n c alive:Nat} {D:Int} {a:Option Addr} {l:List RND} {C:HX.z02} (h:BOTHD w wx g log len N B2 gt gs D n a c l C alive) (P:List Nat) (hP:∀ p∈P,p<2 ^ 64):z3u wx g (fun p=>(RGOT l p).2) (fun p=>(RGOT l p).1) P:=fun W hb p hp=>by
 have hc:=HX.z9G (h.st.below hb) p (hP p hp);rw [z4g,(h.tw.got p).1,(h.tw.got p).2] at hc;exact hc
theorem z4U {l:List RND} (h:∀ v∈l,∀ x∈v.hash,0<=x/\x<=255) (P:List Nat):∀ x∈P.flatMap fun p=>(RGOT l p).2,0<=x/\x<=255:=fun x hx=>by
 obtain ⟨p,_,hx⟩:=List.mem_flatMap.1 hx;unfold RGOT at hx;cases hp:l[p]? with
 | none=>rw [hp] at hx;exact z5U x hx
 | some v=>
   rw [hp] at hx;dsimp only at hx;split at hx
   ·exact h v (List.mem_of_getElem? hp) x hx
   ·exact z5U x hx
theorem z4V (g:Nat) (w:World):Calls Tryz.prog 6 #[.pointer (some ⟨g,0,none⟩)] w fun e w'=>e=.returned (.pointer (some ⟨g,0,none⟩))/\w=w':=by
 go_enter Tryz.func6,Tryz.ntmps6;go_wp2;go_ret;exact ⟨rfl,rfl⟩
theorem zdP {w w1 w2:World} {g gt gs n c log:Nat} {d D:Int} {l:List RND} {a:Option Addr} (hH:HX.Has w1 g (HX.z6h d log) 73) (hb1:Below w.heap.size w w1) (hR:RTREE w2 w1.heap.size gt gs D n l a c) (hb2:Below w1.heap.size w1 w2):SIDES w w2 g (fun _=>none) w1.heap.size gt gs D n l a c:=by
 have h2:=hH.keep hb2;have hg:=hH.lt;refine ⟨h2.cell 4,hR,fun x hx=>⟨?_,fun hf=>?_⟩,hb1.trans (hb2.mono hb1.size),hb1.size⟩
 ·have:w1.heap.size<=x:=by
   rcases hx with rfl | rfl | hx
   ·exact hR.base
   ·exact hR.store.base
   ·exact (hR.store.own.lt x hx).1
  omega
 ·rcases hf with hf | ⟨k,gc,rs,e,_⟩
  ·rw [h2.cell 3] at hf
   cases hf
  ·cases e
theorem zgN {w wx:World} {g B2 gt gs n c log:Nat} {d D:Int} {l:List RND} {a:Option Addr} {C:HX.z02} {f:Nat->Nat->Nat} (hF:HX.FOREST wx w.heap.size g d log n C f) (hS:SIDES w wx g C B2 gt gs D n l a c) (hl:l.length=z01 n) (hn:∀ h k,(k+1)*2 ^ h<=n->l[PLC h k]?=some ⟨TVAL d f h k,true,0⟩):BOTHD w wx g log (z01 n) (z01 n) B2 gt gs D n a c l C (z01 n):=by
 refine ⟨hF.store,hS,zgM hF hl hn,fun v hv=>?_⟩;obtain ⟨p,hp⟩:=List.mem_iff_getElem?.1 hv;have hlt:=(List.getElem?_eq_some_iff.1 hp).1;obtain ⟨h,k,rfl,hk⟩:=z6H hF.few (by omega:p<z01 n);rw [hn h k hk] at hp;cases hp;exact (zaU hF.byte hk).2
end Go.Proofs.YthmnailmbgondaaGreatDoor
