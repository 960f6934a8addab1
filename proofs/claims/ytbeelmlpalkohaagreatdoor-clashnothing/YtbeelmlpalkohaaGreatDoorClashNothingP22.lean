/- Texts of ClashNothing, one behind the other: VerifyTreeMake, VerifyTreeMakePrefix, MmrPlain, StoreCalls, StoreSearch, StoreFind. -/
import Derived.Deep.RegionHeld3
import Derived.Test.YtbeelmlpalkohaaGreatDoorClashNothingP1
import Derived.Test.YtbeelmlpalkohaaGreatDoorClashNothingP10
import Derived.Test.YtbeelmlpalkohaaGreatDoorClashNothingP13
import Derived.Test.YtbeelmlpalkohaaGreatDoorClashNothingP21
namespace Go.Proofs.YtbeelmlpalkohaaGreatDoor
open Go.RowKit
set_option maxRecDepth 100000
def TMADE (w:World) (G:Nat→List Int) (EN:Nat→Int) (D:Int × List Nat) (X Y:Nat) (e:Ending) (w':World):Prop:=
  Below w.heap.size w w'∧
  ((D.1≠0∧e=.returned (.tuple #[.agg #[.int .u64 0,.int .u64 0,.slice none 0 0],.int .i64 D.1]))∨
   (D.1=0∧(∀ p∈D.2,EN p=0)∧∃ u,e=.returned (.tuple #[.agg #[.int .u64 (X:Int),.int .u64 (Y:Int),u],.int .i64 0])∧w'.ownsRow w.heap.size 30 32 u D.2.length (z00 (TFL G D.2 D.2.length)))∨
   (D.1=0∧∃ j,j<D.2.length∧(∀ i,i<j→EN (D.2.getD i 0)=0)∧EN (D.2.getD j 0)≠0∧e=.returned (.tuple #[.agg #[.int .u64 0,.int .u64 0,.slice none 0 0],.int .i64 (EN (D.2.getD j 0))])))
set_option maxHeartbeats 4000000 in
theorem zec (X Y:Nat) (g:Nat) (G:Nat→List Int) (EN:Nat→Int) (hG:∀ p,(G p).length=32) (w:World) (hN:z2R w g G EN (PLA Y X).2) (hT:Tabled w) (h0:0<w.heap.size):
    Calls Tryz.prog 6 #[.iface 24 (.pointer (some ⟨g,0,none⟩)),.int .u64 (Y:Int),.int .u64 (X:Int)] w (TMADE w G EN (PLA Y X) X Y):=by
  have CP:Aside (∀ W,Below w.heap.size w W→Calls Tryz.prog 23 #[.int .u64 (Y:Int),.int .u64 (X:Int)] W fun e w'=>∃ v,e=.returned (.tuple #[v,.int .i64 (PLA Y X).1])∧w'.ownsRow W.heap.size 23 1 v (PLA Y X).2.length (UCELLS (PLA Y X).2)∧Below W.heap.size W w'):=
    fun W h=>zco Y X W (hT.below h0 h) (Nat.lt_of_lt_of_le h0 h.size)
  have hfew:(PLA Y X).2.length≤188:=zeY _ _
  generalize PLA Y X=D at *
  obtain ⟨E,P⟩:=D
  dsimp only at *
  have HA:Aside (P.length≤188∧z2R w g G EN P∧∀ p,(G p).length=32):=⟨hfew,hN,hG⟩
  clear hfew hN hG hT h0
  go_enter Tryz.func6,Tryz.ntmps6
  go_wp2_with fail
  have hR:=Has.new w #[.int .u64 0,.int .u64 0,.slice none 0 0] 32
  have hb0:Below w.heap.size w (w.alloc (.cells #[.int .u64 0,.int .u64 0,.slice none 0 0] 32)):=(Below.refl _ _).alloc (Nat.le_refl _) _
  have hs0:(w.alloc (.cells #[.int .u64 0,.int .u64 0,.slice none 0 0] 32)).heap.size=w.heap.size+1:=by simp
  generalize w.alloc (.cells #[.int .u64 0,.int .u64 0,.slice none 0 0] 32)=w0 at *
  refine (CP.out _ hb0).mono ?_
  rintro e w1 ⟨pv,rfl,hrow,hb⟩
  clear CP
  obtain ⟨a1,a2,a3⟩:=HA.out
  have hbw:Below w.heap.size w w1:=hb0.trans (hb.mono hb0.size)
  have hR1:=hR.keep hb
  have hsz:=hb.size
  by_cases hE:E=0
  · subst hE
    have cf:=z6b g G EN P pv _ w1 a1 a3 (fun W hW=>a2 W (hbw.trans (hW.mono hbw.size))) hrow
    have S0:Aside (Below w.heap.size w w1∧Has w1 w.heap.size #[.int .u64 0,.int .u64 0,.slice none 0 0] 32∧w.heap.size<w1.heap.size):=⟨hbw,hR1,by omega⟩
    clear hR hb0 hs0 hrow hb a1 a2 a3 hbw hR1 hsz HA
    go_wp2_with fail
    refine cf.mono ?_
    rintro e w2 ⟨hb2,h⟩
    clear cf
    obtain ⟨r1,r2,r3⟩:=S0.out
    have hR2:Has w2 w.heap.size #[.int .u64 0,.int .u64 0,.slice none 0 0] 32:=r2.keep hb2
    have x0:w2.cell? ⟨w.heap.size,0,none⟩=some (.int .u64 0):=hR2.cell 0
    have x1:w2.cell? ⟨w.heap.size,1,none⟩=some (.int .u64 0):=hR2.cell 1
    have x2:w2.cell? ⟨w.heap.size,2,none⟩=some (.slice none 0 0):=hR2.cell 2
    have f0:=hR2.frozen 0
    have f1:=hR2.frozen 1
    have f2:=hR2.frozen 2
    have hbB:Below w.heap.size w w2:=r1.trans (hb2.mono r1.size)
    rcases h with ⟨h1,u,rfl,hu1⟩ | ⟨j,hj,hj1,hj2,rfl⟩
    · obtain ⟨ua,uc,rfl⟩:∃ ua uc,u=.slice ua P.length uc:=by
        rcases hu1.2 with ⟨e,h0⟩ | ⟨g,cap,cur,e,_⟩
        · exact ⟨none,0,by rw [e,h0]⟩
        · exact ⟨_,cap,e⟩
      obtain ⟨np,hnp⟩:∃ np,P.length=np:=⟨_,rfl⟩
      rw [hnp] at hu1
      have HNP:Aside (P.length=np):=hnp
      generalize hU0:Value.slice ua P.length uc=u at *
      rw [hnp] at hU0
      subst hU0
      have hun:(Value.slice ua np uc).ownBlock≠some w.heap.size:=fun e=>by have:=(hu1.lt _ e).1;omega
      have S1:Aside (Below w.heap.size w w2∧Has w2 w.heap.size #[.int .u64 0,.int .u64 0,.slice none 0 0] 32∧(∀ p∈P,EN p=0)∧w2.ownsRow w.heap.size 30 32 (.slice ua np uc) np (z00 (TFL G P np))∧(Value.slice ua np uc).ownBlock≠some w.heap.size):=⟨hbB,hR2,h1,z1c hu1 (by omega),hun⟩
      clear hb2 r1 r2 r3 hR2 hbB h1 hu1 hun S0 hnp
      go_wp2
      obtain ⟨r1,r2,r3,r8,r11⟩:=S1.out
      have hH:=((r2.set 0 (.int .u64 (X:Int))).set 1 (.int .u64 (Y:Int))).set 2 (.slice ua np uc)
      have hb:=((r1.setCell (p:=⟨w.heap.size,0,none⟩) (Nat.le_refl _) (.int .u64 (X:Int))).setCell (p:=⟨w.heap.size,1,none⟩) (Nat.le_refl _) (.int .u64 (Y:Int))).setCell (p:=⟨w.heap.size,2,none⟩) (Nat.le_refl _) (.slice ua np uc)
      have hU:=((r8.kept (z19 w2 w.heap.size 0 (.int .u64 (X:Int))) (.inr fun e=>r11 e)).kept (z19 _ w.heap.size 1 (.int .u64 (Y:Int))) (.inr fun e=>r11 e)).kept (z19 _ w.heap.size 2 (.slice ua np uc)) (.inr fun e=>r11 e)
      clear x0 x1 x2 f0 f1 f2 S1 r1 r2 r8
      generalize ((w2.setCell ⟨w.heap.size,0,none⟩ (.int .u64 (X:Int))).setCell ⟨w.heap.size,1,none⟩ (.int .u64 (Y:Int))).setCell ⟨w.heap.size,2,none⟩ (.slice ua np uc)=wf at *
      have z0:wf.cell? ⟨w.heap.size,0,none⟩=some (.int .u64 (X:Int)):=hH.cell 0
      have z1:wf.cell? ⟨w.heap.size,1,none⟩=some (.int .u64 (Y:Int)):=hH.cell 1
      have z2:wf.cell? ⟨w.heap.size,2,none⟩=some (.slice ua np uc):=hH.cell 2
      refine bodyPost_ret (v:=.tuple #[.agg #[.int .u64 (X:Int),.int .u64 (Y:Int),.slice ua np uc],.int .i64 0]) ?_ rfl ⟨hb,.inr (.inl ⟨rfl,r3,_,rfl,by rw [HNP.out];exact hU⟩)⟩
      simp [results,Tryz.f6,go_sem,z0,z1,z2]
    · have S1:Aside (Below w.heap.size w w2∧Has w2 w.heap.size #[.int .u64 0,.int .u64 0,.slice none 0 0] 32∧j<P.length∧(∀ i,i<j→EN (P.getD i 0)=0)∧EN (P.getD j 0)≠0):=⟨hbB,hR2,hj,hj1,hj2⟩
      have hE':(EN (P.getD j 0) != 0)=true:=bne_iff_ne.2 hj2
      clear hb2 r1 r2 r3 hR2 hbB hj hj1 hj2 S0
      obtain ⟨EE,hEE⟩:∃ EE,EN (P.getD j 0)=EE:=⟨_,rfl⟩
      rw [hEE] at hE' ⊢
      have HEE:Aside (EN (P.getD j 0)=EE):=hEE
      clear hEE
      go_wp2
      obtain ⟨r1,r2,r3,r4,r5⟩:=S1.out
      have hH:=((r2.set 0 (.int .u64 0)).set 1 (.int .u64 0)).set 2 (.slice none 0 0)
      have hb:=((r1.setCell (p:=⟨w.heap.size,0,none⟩) (Nat.le_refl _) (.int .u64 0)).setCell (p:=⟨w.heap.size,1,none⟩) (Nat.le_refl _) (.int .u64 0)).setCell (p:=⟨w.heap.size,2,none⟩) (Nat.le_refl _) (.slice none 0 0)
      clear x0 x1 x2 f0 f1 f2 S1 r1 r2
      generalize ((w2.setCell ⟨w.heap.size,0,none⟩ (.int .u64 0)).setCell ⟨w.heap.size,1,none⟩ (.int .u64 0)).setCell ⟨w.heap.size,2,none⟩ (.slice none 0 0)=wf at *
      have z0:wf.cell? ⟨w.heap.size,0,none⟩=some (.int .u64 0):=hH.cell 0
      have z1:wf.cell? ⟨w.heap.size,1,none⟩=some (.int .u64 0):=hH.cell 1
      have z2:wf.cell? ⟨w.heap.size,2,none⟩=some (.slice none 0 0):=hH.cell 2
      refine bodyPost_ret (v:=.tuple #[.agg #[.int .u64 0,.int .u64 0,.slice none 0 0],.int .i64 EE]) ?_ rfl ⟨hb,.inr (.inr ⟨rfl,j,r3,r4,r5,by rw [HEE.out]⟩)⟩
      simp [results,Tryz.f6,go_sem,z0,z1,z2]
  · have hE':(E != 0)=true:=by simp [hE]
    have x0:w1.cell? ⟨w.heap.size,0,none⟩=some (.int .u64 0):=hR1.cell 0
    have x1:w1.cell? ⟨w.heap.size,1,none⟩=some (.int .u64 0):=hR1.cell 1
    have x2:w1.cell? ⟨w.heap.size,2,none⟩=some (.slice none 0 0):=hR1.cell 2
    have f0:=hR1.frozen 0
    have f1:=hR1.frozen 1
    have f2:=hR1.frozen 2
    have S0:Aside (Below w.heap.size w w1∧Has w1 w.heap.size #[.int .u64 0,.int .u64 0,.slice none 0 0] 32∧¬ E=0):=⟨hbw,hR1,hE⟩
    clear hR hb0 hs0 hrow hb a1 a2 a3 hbw hR1 hsz HA hE
    go_wp2
    obtain ⟨r1,r2,r3⟩:=S0.out
    have hH:=((r2.set 0 (.int .u64 0)).set 1 (.int .u64 0)).set 2 (.slice none 0 0)
    have hb:=((r1.setCell (p:=⟨w.heap.size,0,none⟩) (Nat.le_refl _) (.int .u64 0)).setCell (p:=⟨w.heap.size,1,none⟩) (Nat.le_refl _) (.int .u64 0)).setCell (p:=⟨w.heap.size,2,none⟩) (Nat.le_refl _) (.slice none 0 0)
    clear x0 x1 x2 f0 f1 f2 S0 r1 r2
    generalize ((w1.setCell ⟨w.heap.size,0,none⟩ (.int .u64 0)).setCell ⟨w.heap.size,1,none⟩ (.int .u64 0)).setCell ⟨w.heap.size,2,none⟩ (.slice none 0 0)=wf at *
    have z0:wf.cell? ⟨w.heap.size,0,none⟩=some (.int .u64 0):=hH.cell 0
    have z1:wf.cell? ⟨w.heap.size,1,none⟩=some (.int .u64 0):=hH.cell 1
    have z2:wf.cell? ⟨w.heap.size,2,none⟩=some (.slice none 0 0):=hH.cell 2
    refine bodyPost_ret (v:=.tuple #[.agg #[.int .u64 0,.int .u64 0,.slice none 0 0],.int .i64 E]) ?_ rfl ⟨hb,.inl ⟨r3,rfl⟩⟩
    simp [results,Tryz.f6,go_sem,z0,z1,z2]
end Go.Proofs.YtbeelmlpalkohaaGreatDoor

namespace Go.Proofs.YtbeelmlpalkohaaGreatDoor
open Go.RowKit
set_option maxRecDepth 100000
set_option maxHeartbeats 4000000 in
theorem z6X (X Y:Nat) (g:Nat) (G:Nat→List Int) (EN:Nat→Int) (hG:∀ p,(G p).length=32) (w:World) (hN:z2R w g G EN (PPA X Y).2) (hT:Tabled w) (h0:0<w.heap.size):
    Calls Tryz.prog 7 #[.iface 24 (.pointer (some ⟨g,0,none⟩)),.int .u64 (X:Int),.int .u64 (Y:Int)] w (TMADE w G EN (PPA X Y) X Y):=by
  have CP:Aside (∀ W,Below w.heap.size w W→Calls Tryz.prog 25 #[.int .u64 (X:Int),.int .u64 (Y:Int)] W fun e w'=>∃ v,e=.returned (.tuple #[v,.int .i64 (PPA X Y).1])∧w'.ownsRow W.heap.size 23 1 v (PPA X Y).2.length (UCELLS (PPA X Y).2)∧Below W.heap.size W w'):=
    fun W h=>zcp X Y W (hT.below h0 h) (Nat.lt_of_lt_of_le h0 h.size)
  have hfew:(PPA X Y).2.length≤188:=zeZ _ _
  generalize PPA X Y=D at *
  obtain ⟨E,P⟩:=D
  dsimp only at *
  have HA:Aside (P.length≤188∧z2R w g G EN P∧∀ p,(G p).length=32):=⟨hfew,hN,hG⟩
  clear hfew hN hG hT h0
  go_enter Tryz.func7,Tryz.ntmps7
  go_wp2_with fail
  have hR:=Has.new w #[.int .u64 0,.int .u64 0,.slice none 0 0] 36
  have hb0:Below w.heap.size w (w.alloc (.cells #[.int .u64 0,.int .u64 0,.slice none 0 0] 36)):=(Below.refl _ _).alloc (Nat.le_refl _) _
  have hs0:(w.alloc (.cells #[.int .u64 0,.int .u64 0,.slice none 0 0] 36)).heap.size=w.heap.size+1:=by simp
  generalize w.alloc (.cells #[.int .u64 0,.int .u64 0,.slice none 0 0] 36)=w0 at *
  refine (CP.out _ hb0).mono ?_
  rintro e w1 ⟨pv,rfl,hrow,hb⟩
  clear CP
  obtain ⟨a1,a2,a3⟩:=HA.out
  have hbw:Below w.heap.size w w1:=hb0.trans (hb.mono hb0.size)
  have hR1:=hR.keep hb
  have hsz:=hb.size
  by_cases hE:E=0
  · subst hE
    have cf:=z6b g G EN P pv _ w1 a1 a3 (fun W hW=>a2 W (hbw.trans (hW.mono hbw.size))) hrow
    have S0:Aside (Below w.heap.size w w1∧Has w1 w.heap.size #[.int .u64 0,.int .u64 0,.slice none 0 0] 36∧w.heap.size<w1.heap.size):=⟨hbw,hR1,by omega⟩
    clear hR hb0 hs0 hrow hb a1 a2 a3 hbw hR1 hsz HA
    go_wp2_with fail
    refine cf.mono ?_
    rintro e w2 ⟨hb2,h⟩
    clear cf
    obtain ⟨r1,r2,r3⟩:=S0.out
    have hR2:Has w2 w.heap.size #[.int .u64 0,.int .u64 0,.slice none 0 0] 36:=r2.keep hb2
    have x0:w2.cell? ⟨w.heap.size,0,none⟩=some (.int .u64 0):=hR2.cell 0
    have x1:w2.cell? ⟨w.heap.size,1,none⟩=some (.int .u64 0):=hR2.cell 1
    have x2:w2.cell? ⟨w.heap.size,2,none⟩=some (.slice none 0 0):=hR2.cell 2
    have f0:=hR2.frozen 0
    have f1:=hR2.frozen 1
    have f2:=hR2.frozen 2
    have hbB:Below w.heap.size w w2:=r1.trans (hb2.mono r1.size)
    rcases h with ⟨h1,u,rfl,hu1⟩ | ⟨j,hj,hj1,hj2,rfl⟩
    · obtain ⟨ua,uc,rfl⟩:∃ ua uc,u=.slice ua P.length uc:=by
        rcases hu1.2 with ⟨e,h0⟩ | ⟨g,cap,cur,e,_⟩
        · exact ⟨none,0,by rw [e,h0]⟩
        · exact ⟨_,cap,e⟩
      obtain ⟨np,hnp⟩:∃ np,P.length=np:=⟨_,rfl⟩
      rw [hnp] at hu1
      have HNP:Aside (P.length=np):=hnp
      generalize hU0:Value.slice ua P.length uc=u at *
      rw [hnp] at hU0
      subst hU0
      have hun:(Value.slice ua np uc).ownBlock≠some w.heap.size:=fun e=>by have:=(hu1.lt _ e).1;omega
      have S1:Aside (Below w.heap.size w w2∧Has w2 w.heap.size #[.int .u64 0,.int .u64 0,.slice none 0 0] 36∧(∀ p∈P,EN p=0)∧w2.ownsRow w.heap.size 30 32 (.slice ua np uc) np (z00 (TFL G P np))∧(Value.slice ua np uc).ownBlock≠some w.heap.size):=⟨hbB,hR2,h1,z1c hu1 (by omega),hun⟩
      clear hb2 r1 r2 r3 hR2 hbB h1 hu1 hun S0 hnp
      go_wp2
      obtain ⟨r1,r2,r3,r8,r11⟩:=S1.out
      have hH:=((r2.set 0 (.int .u64 (X:Int))).set 1 (.int .u64 (Y:Int))).set 2 (.slice ua np uc)
      have hb:=((r1.setCell (p:=⟨w.heap.size,0,none⟩) (Nat.le_refl _) (.int .u64 (X:Int))).setCell (p:=⟨w.heap.size,1,none⟩) (Nat.le_refl _) (.int .u64 (Y:Int))).setCell (p:=⟨w.heap.size,2,none⟩) (Nat.le_refl _) (.slice ua np uc)
      have hU:=((r8.kept (z19 w2 w.heap.size 0 (.int .u64 (X:Int))) (.inr fun e=>r11 e)).kept (z19 _ w.heap.size 1 (.int .u64 (Y:Int))) (.inr fun e=>r11 e)).kept (z19 _ w.heap.size 2 (.slice ua np uc)) (.inr fun e=>r11 e)
      clear x0 x1 x2 f0 f1 f2 S1 r1 r2 r8
      generalize ((w2.setCell ⟨w.heap.size,0,none⟩ (.int .u64 (X:Int))).setCell ⟨w.heap.size,1,none⟩ (.int .u64 (Y:Int))).setCell ⟨w.heap.size,2,none⟩ (.slice ua np uc)=wf at *
      have z0:wf.cell? ⟨w.heap.size,0,none⟩=some (.int .u64 (X:Int)):=hH.cell 0
      have z1:wf.cell? ⟨w.heap.size,1,none⟩=some (.int .u64 (Y:Int)):=hH.cell 1
      have z2:wf.cell? ⟨w.heap.size,2,none⟩=some (.slice ua np uc):=hH.cell 2
      refine bodyPost_ret (v:=.tuple #[.agg #[.int .u64 (X:Int),.int .u64 (Y:Int),.slice ua np uc],.int .i64 0]) ?_ rfl ⟨hb,.inr (.inl ⟨rfl,r3,_,rfl,by rw [HNP.out];exact hU⟩)⟩
      simp [results,Tryz.f7,go_sem,z0,z1,z2]
    · have S1:Aside (Below w.heap.size w w2∧Has w2 w.heap.size #[.int .u64 0,.int .u64 0,.slice none 0 0] 36∧j<P.length∧(∀ i,i<j→EN (P.getD i 0)=0)∧EN (P.getD j 0)≠0):=⟨hbB,hR2,hj,hj1,hj2⟩
      have hE':(EN (P.getD j 0) != 0)=true:=bne_iff_ne.2 hj2
      clear hb2 r1 r2 r3 hR2 hbB hj hj1 hj2 S0
      obtain ⟨EE,hEE⟩:∃ EE,EN (P.getD j 0)=EE:=⟨_,rfl⟩
      rw [hEE] at hE' ⊢
      have HEE:Aside (EN (P.getD j 0)=EE):=hEE
      clear hEE
      go_wp2
      obtain ⟨r1,r2,r3,r4,r5⟩:=S1.out
      have hH:=((r2.set 0 (.int .u64 0)).set 1 (.int .u64 0)).set 2 (.slice none 0 0)
      have hb:=((r1.setCell (p:=⟨w.heap.size,0,none⟩) (Nat.le_refl _) (.int .u64 0)).setCell (p:=⟨w.heap.size,1,none⟩) (Nat.le_refl _) (.int .u64 0)).setCell (p:=⟨w.heap.size,2,none⟩) (Nat.le_refl _) (.slice none 0 0)
      clear x0 x1 x2 f0 f1 f2 S1 r1 r2
      generalize ((w2.setCell ⟨w.heap.size,0,none⟩ (.int .u64 0)).setCell ⟨w.heap.size,1,none⟩ (.int .u64 0)).setCell ⟨w.heap.size,2,none⟩ (.slice none 0 0)=wf at *
      have z0:wf.cell? ⟨w.heap.size,0,none⟩=some (.int .u64 0):=hH.cell 0
      have z1:wf.cell? ⟨w.heap.size,1,none⟩=some (.int .u64 0):=hH.cell 1
      have z2:wf.cell? ⟨w.heap.size,2,none⟩=some (.slice none 0 0):=hH.cell 2
      refine bodyPost_ret (v:=.tuple #[.agg #[.int .u64 0,.int .u64 0,.slice none 0 0],.int .i64 EE]) ?_ rfl ⟨hb,.inr (.inr ⟨rfl,j,r3,r4,r5,by rw [HEE.out]⟩)⟩
      simp [results,Tryz.f7,go_sem,z0,z1,z2]
  · have hE':(E != 0)=true:=by simp [hE]
    have x0:w1.cell? ⟨w.heap.size,0,none⟩=some (.int .u64 0):=hR1.cell 0
    have x1:w1.cell? ⟨w.heap.size,1,none⟩=some (.int .u64 0):=hR1.cell 1
    have x2:w1.cell? ⟨w.heap.size,2,none⟩=some (.slice none 0 0):=hR1.cell 2
    have f0:=hR1.frozen 0
    have f1:=hR1.frozen 1
    have f2:=hR1.frozen 2
    have S0:Aside (Below w.heap.size w w1∧Has w1 w.heap.size #[.int .u64 0,.int .u64 0,.slice none 0 0] 36∧¬ E=0):=⟨hbw,hR1,hE⟩
    clear hR hb0 hs0 hrow hb a1 a2 a3 hbw hR1 hsz HA hE
    go_wp2
    obtain ⟨r1,r2,r3⟩:=S0.out
    have hH:=((r2.set 0 (.int .u64 0)).set 1 (.int .u64 0)).set 2 (.slice none 0 0)
    have hb:=((r1.setCell (p:=⟨w.heap.size,0,none⟩) (Nat.le_refl _) (.int .u64 0)).setCell (p:=⟨w.heap.size,1,none⟩) (Nat.le_refl _) (.int .u64 0)).setCell (p:=⟨w.heap.size,2,none⟩) (Nat.le_refl _) (.slice none 0 0)
    clear x0 x1 x2 f0 f1 f2 S0 r1 r2
    generalize ((w1.setCell ⟨w.heap.size,0,none⟩ (.int .u64 0)).setCell ⟨w.heap.size,1,none⟩ (.int .u64 0)).setCell ⟨w.heap.size,2,none⟩ (.slice none 0 0)=wf at *
    have z0:wf.cell? ⟨w.heap.size,0,none⟩=some (.int .u64 0):=hH.cell 0
    have z1:wf.cell? ⟨w.heap.size,1,none⟩=some (.int .u64 0):=hH.cell 1
    have z2:wf.cell? ⟨w.heap.size,2,none⟩=some (.slice none 0 0):=hH.cell 2
    refine bodyPost_ret (v:=.tuple #[.agg #[.int .u64 0,.int .u64 0,.slice none 0 0],.int .i64 E]) ?_ rfl ⟨hb,.inl ⟨r3,rfl⟩⟩
    simp [results,Tryz.f7,go_sem,z0,z1,z2]
end Go.Proofs.YtbeelmlpalkohaaGreatDoor

namespace Go.Proofs.YtbeelmlpalkohaaGreatDoor.HX
open Go.RowKit
set_option maxRecDepth 100000
def zev (d:Int) (l r:Nat→Nat):Nat→Nat:=HX.z0h d (1 :: ((List.range 32).map l ++ (List.range 32).map r))
theorem zed (d:Int) (l r:Nat→Nat) (i:Nat):zev d l r i<256:=HX.z1P d _ _ i
def VAL (d:Int) (f:Nat→Nat→Nat):Nat→Nat→Nat→Nat
  | 0,k=>f k
  | h+1,k=>zev d (VAL d f h (2*k)) (VAL d f h (2*k+1))
theorem z4d {d:Int} {f:Nat→Nat→Nat} {n:Nat} (hf:∀ k,k<n→∀ i,f k i<256):∀ (h k:Nat),(k+1)*2 ^ h≤n→∀ i,VAL d f h k i<256
  | 0,k,hk,i=>hf k (by simp at hk;omega) i
  | h+1,k,_,i=>zed _ _ _ i
theorem z1W {d:Int} {f g:Nat→Nat→Nat} {n:Nat} (hfg:∀ k,k<n→f k=g k):∀ (h k:Nat),(k+1)*2 ^ h≤n→VAL d f h k=VAL d g h k
  | 0,k,hk=>hfg k (by simp at hk;omega)
  | h+1,k,hk=>by
    have e:(k+1)*2 ^ (h+1)=(2*k+1+1)*2 ^ h:=by rw [Nat.pow_succ,show 2*k+1+1=(k+1)*2 by omega,Nat.mul_assoc,Nat.mul_comm (2 ^ h) 2]
    have h2:(2*k+1+1)*2 ^ h≤n:=by omega
    have h1:(2*k+1)*2 ^ h≤n:=Nat.le_trans (Nat.mul_le_mul_right _ (by omega)) h2
    rw [VAL,VAL,z1W hfg h (2*k) h1,z1W hfg h (2*k+1) h2]
def z0D (f:Nat→Nat→Nat) (n:Nat) (x:Nat→Nat):Nat→Nat→Nat:=fun k=>if k=n then x else f k
theorem z8T (f:Nat→Nat→Nat) (n:Nat) (x:Nat→Nat):z0D f n x n=x:=by simp [z0D]
theorem zcT (f:Nat→Nat→Nat) (n:Nat) (x:Nat→Nat) {k:Nat} (h:k<n):z0D f n x k=f k:=by
  unfold z0D
  rw [if_neg (by omega)]
def ONES (n j:Nat):Prop:=∀ i,i<j→n / 2 ^ i % 2=1
theorem ONES.next {n j:Nat} (h:ONES n j) (hj:n / 2 ^ j % 2=1):ONES n (j+1):=fun i hi=>by
  by_cases e:i=j
  · subst e;exact hj
  · exact h i (by omega)
theorem z0w (n j:Nat):n / 2 ^ (j+1)=n / 2 ^ j / 2:=by rw [Nat.pow_succ,Nat.div_div_eq_div_mul]
theorem ONES.place {n:Nat}:∀ {j:Nat},ONES n j→PLC j (n / 2 ^ j)=z0a n+j
  | 0,_=>by rw [Nat.pow_zero,Nat.div_one,z7S];rfl
  | j+1,h=>by
    have h1:=h j (by omega)
    have ih:=ONES.place (n:=n) (j:=j) fun i hi=>h i (by omega)
    have e:n / 2 ^ j=2*(n / 2 ^ (j+1))+1:=by rw [z0w];omega
    rw [z2w,← e,ih]
    omega
theorem ONES.span {n:Nat}:∀ {j:Nat},ONES n j→(n / 2 ^ j+1)*2 ^ j=n+1
  | 0,_=>by simp
  | j+1,h=>by
    have h1:=h j (by omega)
    have ih:=ONES.span (n:=n) (j:=j) fun i hi=>h i (by omega)
    have e:n / 2 ^ j=2*(n / 2 ^ (j+1))+1:=by rw [z0w];omega
    rw [← ih,e]
    generalize n / 2 ^ (j+1)=q
    rw [Nat.pow_succ,show 2*q+1+1=(q+1)*2 by omega,Nat.mul_assoc,Nat.mul_comm (2 ^ j) 2]
theorem ONES.of_span {n h k:Nat} (e:(k+1)*2 ^ h=n+1):k=n / 2 ^ h∧ONES n h:=by
  have hp:0<2 ^ h:=Nat.two_pow_pos h
  have ek:n=k*2 ^ h+(2 ^ h - 1):=by
    have:(k+1)*2 ^ h=k*2 ^ h+2 ^ h:=by rw [Nat.add_mul,Nat.one_mul]
    omega
  refine ⟨?_,fun i hi=>?_⟩
  · rw [ek,Nat.mul_comm k,Nat.mul_add_div hp,Nat.div_eq_of_lt (by omega),Nat.add_zero]
  · obtain ⟨m,rfl⟩:∃ m,h=i+1+m:=⟨h - (i+1),by omega⟩
    have hpi:0<2 ^ i:=Nat.two_pow_pos i
    have e2:n+1=((k+1)*2 ^ m*2)*2 ^ i:=by
      rw [← e,Nat.pow_add,Nat.pow_succ,Nat.mul_assoc (k+1),Nat.mul_assoc (k+1)]
      congr 1
      rw [Nat.mul_comm (2 ^ i*2),← Nat.mul_assoc,Nat.mul_assoc (2 ^ m),Nat.mul_assoc (2 ^ m),Nat.mul_comm 2 (2 ^ i)]
    obtain ⟨q,hq⟩:∃ q,(k+1)*2 ^ m=q+1:=⟨(k+1)*2 ^ m - 1,by have:0<(k+1)*2 ^ m:=Nat.mul_pos (by omega) (Nat.two_pow_pos m);omega⟩
    rw [hq] at e2
    have e3:n=(2*q+1)*2 ^ i+(2 ^ i - 1):=by
      have:(q+1)*2*2 ^ i=(2*q+1)*2 ^ i+2 ^ i:=by rw [show (q+1)*2=2*q+1+1 by omega,Nat.add_mul,Nat.one_mul]
      omega
    have e4:n / 2 ^ i=2*q+1:=by
      rw [e3,Nat.mul_comm (2*q+1),Nat.mul_add_div hpi,Nat.div_eq_of_lt (by omega),Nat.add_zero]
    omega
theorem zee (n:Nat):∃ t,ONES n t∧n / 2 ^ t % 2=0:=by
  suffices h:∀ m j,ONES n j→n≤m+j→∃ t,ONES n t∧n / 2 ^ t % 2=0 from h n 0 (fun i hi=>by omega) (by omega)
  intro m
  induction m with
  | zero=>
    intro j hj hn
    refine ⟨j,hj,?_⟩
    have:n<2 ^ j:=Nat.lt_of_le_of_lt (by omega) (Nat.lt_two_pow_self (n:=j))
    rw [Nat.div_eq_of_lt this]
  | succ m ih=>
    intro j hj hn
    by_cases e:n / 2 ^ j % 2=0
    · exact ⟨j,hj,e⟩
    · exact ih (j+1) (hj.next (by omega)) (by omega)
theorem ONES.nodes {n t:Nat} (h:ONES n t) (ht:n / 2 ^ t % 2=0):z0a (n+1)=z0a n+t+1:=by
  have hp:0<2 ^ t:=Nat.two_pow_pos t
  obtain ⟨q,hq⟩:∃ q,n / 2 ^ t=2*q:=⟨n / 2 ^ t / 2,by omega⟩
  have hs:=h.span
  rw [hq] at hs
  have e1:PC (n+1)=PC q+1:=by rw [← hs,z25,z32]
  have e2:n=(2*q)*2 ^ t+(2 ^ t - 1):=by
    have:(2*q+1)*2 ^ t=2*q*2 ^ t+2 ^ t:=by rw [Nat.add_mul,Nat.one_mul]
    omega
  have e3:PC n=PC q+t:=by
    rw [e2,z4G t (2*q) (2 ^ t - 1) (by omega),z4Y,z6o]
  have h1:=z0K n
  have h2:=z0K (n+1)
  omega
theorem ONES.lt {n t:Nat} (h:ONES n t):t≤n:=by
  have h1:=h.span
  have h2:t<2 ^ t:=Nat.lt_two_pow_self
  have h3:1*2 ^ t≤(n / 2 ^ t+1)*2 ^ t:=Nat.mul_le_mul_right _ (Nat.le_add_left 1 _)
  generalize n / 2 ^ t=q at *
  omega
theorem z2S {n h k:Nat} (hk:(k+1)*2 ^ h≤n):PLC h k<z0a n:=by
  have h1:=z7T h k
  have h2:=z6p h k
  obtain ⟨m,hm⟩:∃ m,(k+1)*2 ^ h=m+1:=⟨(k+1)*2 ^ h - 1,by omega⟩
  rw [hm,Nat.add_sub_cancel] at h1
  have h3:z0a (m+1)≤z0a n:=z5v (by omega)
  have ho:ONES m h:=(ONES.of_span hm).2
  obtain ⟨t,ht1,ht2⟩:∃ t,ONES m t∧m / 2 ^ t % 2=0:=zee m
  have h4:=ht1.nodes ht2
  have h5:h≤t:=by
    rcases Nat.lt_or_ge t h with hlt | hge
    · have:=ho t hlt
      omega
    · exact hge
  omega
end Go.Proofs.YtbeelmlpalkohaaGreatDoor.HX

namespace Go.Proofs.YtbeelmlpalkohaaGreatDoor.HX
open Go.RowKit
theorem z8U (x:Int) (w:World):Calls Tryz.prog 134 #[.int .u64 x] w fun e w'=>e=.returned (.bool false)∧w=w':=by
  go_enter Tryz.func134,Tryz.ntmps134
  go_wp2
  go_ret
  exact ⟨rfl,rfl⟩
def CMP (x y:Nat):Int:=if x<y then -1 else if y<x then 1 else 0
theorem zby (x y:Nat) (w:World):Calls Tryz.prog 124 #[.int .u64 (x:Int),.int .u64 (y:Int)] w fun e w'=>e=.returned (.int .i64 (CMP x y))∧w=w':=by
  have c1:=fun w=>z8U (x:Int) w
  have c2:=fun w=>z8U (y:Int) w
  rcases Nat.lt_trichotomy x y with h | h | h
  · have h1:(x:Int)<(y:Int):=by omega
    have e:CMP x y = -1:=by unfold CMP;rw [if_pos h]
    rw [e]
    go_enter Tryz.func124,Tryz.ntmps124
    go_wp2_with fail
    refine (c1 _).mono ?_
    rintro e w' ⟨rfl,rfl⟩
    go_wp2_with fail
    refine (c2 _).mono ?_
    rintro e w' ⟨rfl,rfl⟩
    go_wp2
    go_ret
    exact ⟨rfl,rfl⟩
  · subst h
    have e:CMP x x=0:=by unfold CMP;rw [if_neg (by omega),if_neg (by omega)]
    rw [e]
    go_enter Tryz.func124,Tryz.ntmps124
    go_wp2_with fail
    refine (c1 _).mono ?_
    rintro e w' ⟨rfl,rfl⟩
    go_wp2_with fail
    refine (c1 _).mono ?_
    rintro e w' ⟨rfl,rfl⟩
    go_wp2
    go_ret
    exact ⟨rfl,rfl⟩
  · have h1:¬ (x:Int)<(y:Int):=by omega
    have h2:(y:Int)<(x:Int):=by omega
    have e:CMP x y=1:=by unfold CMP;rw [if_neg (by omega),if_pos h]
    rw [e]
    go_enter Tryz.func124,Tryz.ntmps124
    go_wp2_with fail
    refine (c1 _).mono ?_
    rintro e w' ⟨rfl,rfl⟩
    go_wp2_with fail
    refine (c2 _).mono ?_
    rintro e w' ⟨rfl,rfl⟩
    go_wp2
    go_ret
    exact ⟨rfl,rfl⟩
theorem zcU (p r:Int) (h:p / 64=r) (w:World):Calls Tryz.prog 103 #[.int .u64 p] w fun e w'=>e=.returned (.int .u64 r)∧w=w':=by
  go_enter Tryz.func103,Tryz.ntmps103
  go_wp2
  go_ret
  exact ⟨rfl,rfl⟩
theorem z8V (p:Nat) (w:World):Calls Tryz.prog 103 #[.int .u64 (p:Int)] w fun e w'=>e=.returned (.int .u64 ((p / 64:Nat):Int))∧w=w':=zcU _ _ (by omega) w
theorem zcV (p k r:Int) (h0:bits .and .u64 p 63=k) (hk:¬ k<0) (h:IntKind.u64.wrap (2 ^ min k.toNat 64)=r) (w:World):Calls Tryz.prog 106 #[.int .u64 p] w fun e w'=>e=.returned (.int .u64 r)∧w=w':=by
  subst h
  go_enter Tryz.func106,Tryz.ntmps106
  go_wp2
  go_ret
  exact ⟨rfl,rfl⟩
theorem z5I (p:Nat) (hp:p<2 ^ 64) (w:World):Calls Tryz.prog 106 #[.int .u64 (p:Int)] w fun e w'=>e=.returned (.int .u64 ((2 ^ (p % 64):Nat):Int))∧w=w':=by
  have hk:p % 64<64:=Nat.mod_lt _ (by decide)
  have e:(p &&& 63:Nat)=p % 64:=Nat.and_two_pow_sub_one_eq_mod p 6
  have h2:2 ^ (p % 64)<2 ^ 64:=Nat.pow_lt_pow_right (by decide) hk
  refine zcV _ ((p % 64:Nat):Int) _ ((z1R rfl rfl hp (by decide)).trans (by rw [e])) (by omega) ?_ w
  rw [Int.toNat_natCast,Nat.min_eq_left (by omega)]
  exact z0W (by push_cast;rfl) h2
abbrev zbz (log:Nat):Array Value:=#[.int .i64 (log:Int),.int .u64 0,.int .u64 0,.map none,.map none]
theorem z9J (log:Nat) (h:log≤16) (w:World):Calls Tryz.prog 17 #[.int .i64 (log:Int)] w fun e w'=>e=.returned (.tuple #[.pointer (some ⟨w.heap.size,0,none⟩),.int .i64 0])∧w'=w.alloc (.cells (zbz log) 61):=by
  have h1:¬ (log:Int)<0:=by omega
  have h2:¬ (16:Int)<(log:Int):=by omega
  go_enter Tryz.func17,Tryz.ntmps17
  go_wp2
  go_ret2
  exact ⟨rfl,rfl⟩
theorem z7z (x y:Nat) (lv:Int) (a:Option Addr) (n c:Nat) (w:World):Calls Tryz.prog 123 #[.agg #[.int .u64 (x:Int),.int .u64 lv,.slice a n c],.int .u64 (y:Int)] w fun e w'=>e=.returned (.int .i64 (CMP x y))∧Below w.heap.size w w':=by
  have cc:=fun w=>zby x y w
  go_enter Tryz.func123,Tryz.ntmps123
  go_wp2_with fail
  refine (cc _).mono ?_
  rintro e w' ⟨rfl,rfl⟩
  go_wp2
  go_ret
  exact ⟨rfl,(Below.refl _ _).alloc (Nat.le_refl _) _⟩
end Go.Proofs.YtbeelmlpalkohaaGreatDoor.HX

namespace Go.Proofs.YtbeelmlpalkohaaGreatDoor.HX
open Go.RowKit
structure RW where
  num:Nat
  live:Nat
  a:Option Addr
  n:Nat
  c:Nat
def z2u (w:World) (a:Option Addr) (rs:List RW):Prop:=0<rs.length→∃ g o,a=some ⟨g,o,none⟩∧g<w.heap.size∧∀ (j:Nat) (r:RW),rs[j]?=some r→w.cell? ⟨g,o+j*3,none⟩=some (.int .u64 (r.num:Int))∧w.cell? ⟨g,o+j*3+1,none⟩=some (.int .u64 (r.live:Int))∧w.cell? ⟨g,o+j*3+2,none⟩=some (.slice r.a r.n r.c)
def z7N (rs:List RW):Prop:=∀ (i j:Nat) (r s:RW),i<j→rs[i]?=some r→rs[j]?=some s→r.num<s.num
def z6c (rs:List RW) (t i:Nat):Prop:=i≤rs.length∧(∀ (j:Nat) (r:RW),j<i→rs[j]?=some r→r.num<t)∧(∀ (j:Nat) (r:RW),i≤j→rs[j]?=some r→t≤r.num)
theorem zi3 {i j:Nat} (h:i<j):∃ m,i≤m∧m<j∧m=(i+j) / 2:=⟨(i+j) / 2,by omega,by omega,rfl⟩
theorem z8W (i j S m:Nat) (hj:j<2 ^ 40) (hi:i<j) (hS:i+j=S) (hm:m=(i+j) / 2):wrap64 ((i:Int)+(j:Int))=(S:Int)∧IntKind.u64.wrap ((i:Int)+(j:Int))=(S:Int)∧(S:Int) / 2=(m:Int)∧wrap64 (m:Int)=(m:Int)∧wrap64 ((m:Int)+1)=((m+1:Nat):Int)∧IntKind.u64.wrap (S:Int)=(S:Int):=by
  rw [z0n,z0n]
  unfold wrap64
  omega
def z4v (rs:List RW) (t:Nat) (w:World) (e:Ending) (w':World):Prop:=∃ (i:Nat) (b:Bool),e=.returned (.tuple #[.int .i64 (i:Int),.bool b])∧z6c rs t i∧(b=true↔∃ r:RW,rs[i]?=some r∧r.num=t)∧Below w.heap.size w w'
set_option maxHeartbeats 1000000 in
theorem zcW (a:Option Addr) (n cap:Nat) (rs:List RW) (t:Nat) (hl:rs.length=n) (hn:n<2 ^ 40) (hR:z7N rs) (w:World) (hL:z2u w a rs):Calls Tryz.prog 122 #[.slice a n cap,.int .u64 (t:Int),.func (.func 123) #[] #[]] w fun e w'=>z4v rs t w e w':=by
  have H:Aside (rs.length=n∧n<2 ^ 40∧z7N rs∧z2u w a rs):=⟨hl,hn,hR,hL⟩
  clear hl hn hR hL
  go_enter Tryz.func122,Tryz.ntmps122
  go_wp2
  go_loopg [9,10] n (fun gg s9 s10 wx=>∃ i j:Nat,s9=.int .i64 (i:Int)∧s10=.int .i64 (j:Int)∧Aside (i+gg=j∧j≤n∧(∀ (k:Nat) (r:RW),k<i→rs[k]?=some r→r.num<t)∧(∀ (k:Nat) (r:RW),j≤k→rs[k]?=some r→t≤r.num)∧Below w.heap.size w wx))
  case atStart=>exact ⟨0,n,rfl,rfl,by omega,Nat.le_refl _,fun k r h=>by omega,fun k r h e=>by have:=(List.getElem?_eq_some_iff.1 e).1;have:=H.out.1;omega,Below.refl _ _⟩
  case round=>
    obtain ⟨i,j,rfl,rfl,I⟩:=hrel
    cases gk with
    | zero=>
      obtain ⟨i1,i2,i3,i4,i5⟩:=I.out
      obtain rfl:i=j:=by omega
      have hlt:¬ (i:Int)<(i:Int):=by omega
      rcases Nat.lt_or_ge i n with hin | hin
      · have hi2:(i:Int)<(n:Int):=by omega
        have hi0:(0:Int)≤(i:Int):=by omega
        obtain ⟨h1,h2,h3,h4⟩:=H.out
        obtain ⟨r,er⟩:∃ r,rs[i]?=some r:=⟨_,List.getElem?_eq_getElem (by omega)⟩
        obtain ⟨g,o,rfl,hg,hc⟩:=h4 (by omega)
        obtain ⟨y0,y1,y2⟩:=hc i r er
        have x0:=(i5.cell (p:=⟨g,o+i*3,none⟩) hg).trans y0
        have x1:=(i5.cell (p:=⟨g,o+i*3+1,none⟩) hg).trans y1
        have x2:=(i5.cell (p:=⟨g,o+i*3+2,none⟩) hg).trans y2
        have cc:=z7z r.num t (r.live:Int) r.a r.n r.c
        have R:Aside (z6c rs t i∧rs[i]?=some r∧Below w.heap.size w wr):=⟨⟨by omega,i3,i4⟩,er,i5⟩
        clear i1 i2 i3 i4 i5 h1 h2 h3 h4 y0 y1 y2 hc er I
        go_wp2_with fail
        refine (cc _).mono ?_
        rintro e w2 ⟨rfl,hb⟩
        have R2:Aside (Below w.heap.size w w2):=R.out.2.2.trans (hb.mono R.out.2.2.size)
        clear hb cc
        generalize hcmp:CMP r.num t=cv at *
        have HC:Aside (CMP r.num t=cv):=hcmp
        clear hcmp
        go_wp2
        go_ret2
        refine ⟨i,_,rfl,R.out.1,?_,R2.out⟩
        have hc:=HC.out
        unfold CMP at hc
        constructor
        · intro h
          refine ⟨r,R.out.2.1,?_⟩
          have h':cv=0:=by simpa using h
          split at hc
          · omega
          · split at hc <;> omega
        · rintro ⟨r',e,rfl⟩
          rw [R.out.2.1] at e
          cases e
          have h':cv=0:=by rw [← hc,if_neg (by omega),if_neg (by omega)]
          simp [h']
      · have hi2:¬ (i:Int)<(n:Int):=by omega
        have R:Aside (z6c rs t i∧rs[i]?=none∧Below w.heap.size w wr):=⟨⟨by have:=H.out.1;omega,i3,i4⟩,List.getElem?_eq_none (by have:=H.out.1;omega),i5⟩
        clear i1 i2 i3 i4 i5 I
        go_wp2
        go_ret2
        refine ⟨i,false,rfl,R.out.1,⟨(fun h=>by cases h),fun ⟨r,e,_⟩=>by rw [R.out.2.1] at e;cases e⟩,R.out.2.2⟩
    | succ gg=>
      obtain ⟨i1,i2,i3,i4,i5⟩:=I.out
      have hij:(i:Int)<(j:Int):=by omega
      obtain ⟨h1,h2,h3,h4⟩:=H.out
      obtain ⟨m,m1,m2,m3⟩:=zi3 (i:=i) (j:=j) (by omega)
      obtain ⟨S,hS⟩:∃ S,i+j=S:=⟨_,rfl⟩
      have HW:Aside _:=z8W i j S m (by omega) (by omega) hS m3
      clear hS
      have hm2:(m:Int)<(n:Int):=by omega
      have hm0:(0:Int)≤(m:Int):=by omega
      obtain ⟨r,er⟩:∃ r,rs[m]?=some r:=⟨_,List.getElem?_eq_getElem (by omega)⟩
      obtain ⟨g,o,rfl,hg,hc⟩:=h4 (by omega)
      obtain ⟨y0,y1,y2⟩:=hc m r er
      have x0:=(i5.cell (p:=⟨g,o+m*3,none⟩) hg).trans y0
      have x1:=(i5.cell (p:=⟨g,o+m*3+1,none⟩) hg).trans y1
      have x2:=(i5.cell (p:=⟨g,o+m*3+2,none⟩) hg).trans y2
      have cc:=z7z r.num t (r.live:Int) r.a r.n r.c
      have LO:Aside (r.num<t→∀ (k:Nat) (s:RW),k<m+1→rs[k]?=some s→s.num<t):=fun h k s hk e=>by
        rcases Nat.lt_or_ge k m with hkm | hkm
        · have:=h3 k m s r hkm e er
          omega
        · obtain rfl:k=m:=by omega
          rw [er] at e
          cases e
          exact h
      have HI:Aside (¬ r.num<t→∀ (k:Nat) (s:RW),m≤k→rs[k]?=some s→t≤s.num):=fun h k s hk e=>by
        rcases Nat.lt_or_ge m k with hkm | hkm
        · have:=h3 m k r s hkm er e
          omega
        · obtain rfl:k=m:=by omega
          rw [er] at e
          cases e
          omega
      have R:Aside (i≤m∧m<j∧j≤n∧i+(gg+1)=j∧(∀ (k:Nat) (r:RW),k<i→rs[k]?=some r→r.num<t)∧(∀ (k:Nat) (r:RW),j≤k→rs[k]?=some r→t≤r.num)∧Below w.heap.size w wr):=⟨m1,m2,i2,i1,i3,i4,i5⟩
      clear i1 i2 i3 i4 i5 h1 h2 h3 h4 y0 y1 y2 hc er I m1 m2 m3
      obtain ⟨q1,q2,q3,q4,q5,q6⟩:=HW.out
      go_wp2_with fail
      refine (cc _).mono ?_
      rintro e w2 ⟨rfl,hb⟩
      have R2:Aside (Below w.heap.size w w2):=R.out.2.2.2.2.2.2.trans (hb.mono R.out.2.2.2.2.2.2.size)
      clear hb cc x0 x1 x2
      by_cases hlt:r.num<t
      · have e:CMP r.num t = -1:=by unfold CMP;rw [if_pos hlt]
        rw [e]
        have L:=LO.out hlt
        have LL:Aside (∀ (k:Nat) (s:RW),k<m+1→rs[k]?=some s→s.num<t):=L
        clear L hlt e
        go_wp2
        go_roundg (j - (m+1))
        case measure=>have:=R.out;clear q1 q2 q3 q4 q5 q6;omega
        case rel=>exact ⟨m+1,j,by first | rfl | (rw [q5]),rfl,by have:=R.out;clear q1 q2 q3 q4 q5 q6;omega,R.out.2.2.1,LL.out,R.out.2.2.2.2.2.1,R2.out⟩
      · have e:¬ CMP r.num t<0:=by unfold CMP;rw [if_neg hlt];split <;> omega
        have L:=HI.out hlt
        have LL:Aside (∀ (k:Nat) (s:RW),m≤k→rs[k]?=some s→t≤s.num):=L
        generalize CMP r.num t=cv at *
        clear L hlt
        go_wp2
        go_roundg (m - i)
        case measure=>have:=R.out;clear q1 q2 q3 q4 q5 q6;omega
        case rel=>exact ⟨i,m,rfl,by first | rfl | (rw [q4]),by have:=R.out;clear q1 q2 q3 q4 q5 q6;omega,by have:=R.out;clear q1 q2 q3 q4 q5 q6;omega,R.out.2.2.2.2.1,LL.out,R2.out⟩
end Go.Proofs.YtbeelmlpalkohaaGreatDoor.HX

namespace Go.Proofs.YtbeelmlpalkohaaGreatDoor.HX
open Go.RowKit
theorem z9K (g:Nat) (p log r:Int) (hl:¬ log<0) (w:World) (h:w.cell? ⟨g,0,none⟩=some (.int .i64 log)) (e:p / 2 ^ min log.toNat 64=r):Calls Tryz.prog 68 #[.pointer (some ⟨g,0,none⟩),.int .u64 p] w fun e w'=>e=.returned (.agg #[.int .u64 r])∧Below w.heap.size w w':=by
  have hg:=World.block_lt_of_cell? w _ h
  have h2:(w.alloc (.cells #[.int .u64 0] 129)).cell? ⟨g,0,none⟩=some (.int .i64 log):=(Below.cell (B:=w.heap.size) ((Below.refl _ _).alloc (Nat.le_refl _) _) hg).trans h
  go_enter Tryz.func68,Tryz.ntmps68
  go_wp2
  refine bodyPost_ret (v:=.agg #[.int .u64 r]) ?_ rfl ⟨rfl,(Below.refl _ _).alloc (Nat.le_refl _) _⟩
  simp [results,Tryz.f68,go_sem]
theorem zef (g o:Nat) (lv bit k x:Int) (r:Nat) (w:World) (h:w.cell? ⟨g,o+1,none⟩=some (.int .u64 lv)) (e1:IntKind.u64.wrap (bit - 1)=k) (e2:bits .and .u64 lv k=x) (c:∀ w,Calls Tryz.prog 51 #[.int .u64 x] w fun e w'=>e=.returned (.int .i64 (r:Int))∧w=w'):Calls Tryz.prog 105 #[.pointer (some ⟨g,o,none⟩),.int .u64 bit] w fun e w'=>e=.returned (.int .i64 (r:Int))∧w=w':=by
  go_enter Tryz.func105,Tryz.ntmps105
  go_wp2_with fail
  refine (c _).mono ?_
  rintro e w' ⟨rfl,rfl⟩
  go_wp2
  go_ret
  exact ⟨rfl,rfl⟩
theorem z6Y (g o lv k:Nat) (hlv:lv<2 ^ 64) (hk:k<64) (w:World) (h:w.cell? ⟨g,o+1,none⟩=some (.int .u64 (lv:Int))):Calls Tryz.prog 105 #[.pointer (some ⟨g,o,none⟩),.int .u64 ((2 ^ k:Nat):Int)] w fun e w'=>e=.returned (.int .i64 ((POP (lv % 2 ^ k):Nat):Int))∧w=w':=by
  have hp:=Nat.two_pow_pos k
  have h2:2 ^ k<2 ^ 64:=Nat.pow_lt_pow_right (by decide) hk
  have e1:IntKind.u64.wrap (((2 ^ k:Nat):Int) - 1)=((2 ^ k - 1:Nat):Int):=z0W (by omega) (by omega)
  have e2:bits .and .u64 (lv:Int) ((2 ^ k - 1:Nat):Int)=((lv % 2 ^ k:Nat):Int):=by
    rw [z1R rfl rfl hlv (by omega),Nat.and_two_pow_sub_one_eq_mod]
  exact zef g o lv _ _ _ _ w h e1 e2 (fun w=>z1t _ (Nat.lt_of_le_of_lt (Nat.mod_le _ _) hlv) w)
theorem zaw (g:Nat) (a:Option Addr) (n cap:Nat) (rs:List RW) (p:Nat) (hl:rs.length=n) (hn:n<2 ^ 40) (hR:z7N rs) (w:World) (hL:z2u w a rs) (hc:w.cell? ⟨g,0,none⟩=some (.slice a n cap)):Calls Tryz.prog 101 #[.pointer (some ⟨g,0,none⟩),.int .u64 (p:Int)] w fun e w'=>z4v rs (p / 64) w e w':=by
  have cs:Calls Tryz.prog 122 #[.slice a n cap,.int .u64 ((p / 64:Nat):Int),.func (.func 123) #[] #[]] w.drew fun e w'=>z4v rs (p / 64) w e w':=(zcW a n cap rs (p / 64) hl hn hR w.drew hL).mono fun e w' ⟨i,b,h1,h2,h3,h4⟩=>⟨i,b,h1,h2,h3,(Below.refl w.heap.size w).drew.trans h4⟩
  have cr:=fun w=>z8V p w
  clear hL hR hn
  go_enter Tryz.func101,Tryz.ntmps101
  go_wp2_with fail
  go_region_held3 (fun W:World=>W.cell? ⟨g,0,none⟩=some (.slice a n cap)) (first | assumption | go_keep) (first
    | (go_at_call 103;refine (cr _).mono ?_;rintro e w2 ⟨rfl,rfl⟩)
    | (go_at_call 122;refine cs.mono ?_;rintro e w3 ⟨i,b,rfl,s1,s2,s3⟩;have S:Aside (z6c rs (p / 64) i∧(b=true↔∃ r:RW,rs[i]?=some r∧r.num=p / 64)∧Below w.heap.size w w3):=⟨s1,s2,s3⟩;have hc3:w3.cell? ⟨g,0,none⟩=some (.slice a n cap):=(s3.cell (World.block_lt_of_cell? w _ hc)).trans hc;clear s1 s2 s3))
  go_wp2
  go_ret2
  exact ⟨i,b,rfl,S.out⟩
end Go.Proofs.YtbeelmlpalkohaaGreatDoor.HX
