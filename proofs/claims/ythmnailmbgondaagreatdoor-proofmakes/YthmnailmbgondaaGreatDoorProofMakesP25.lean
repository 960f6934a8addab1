/- ProofMakes: part 25. -/
import Derived.Deep.CutRange
import Derived.Test.YthmnailmbgondaaGreatDoorProofMakesP24
set_option maxHeartbeats 1000000
namespace Go.Proofs.YthmnailmbgondaaGreatDoor
open Go.RowKit
set_option maxRecDepth 100000
theorem z76 (i n:Int) (hn:4611686018427387904<n) (w:World):Calls Tryz.prog 11 #[.int .u64 i,.int .u64 n] w fun e w'=>e=.returned (.tuple #[.slice none 0 0,.int .i64 30])/\w=w':=by
 go_enter Tryz.func11,Tryz.ntmps11;go_wp2;go_ret2;exact ⟨rfl,rfl⟩
theorem z6u (i n:Int) (hn:¬ 4611686018427387904<n) (hi:n<=i) (w:World):Calls Tryz.prog 11 #[.int .u64 i,.int .u64 n] w fun e w'=>e=.returned (.tuple #[.slice none 0 0,.int .i64 32])/\w=w':=by
 go_enter Tryz.func11,Tryz.ntmps11;go_wp2;go_ret2;exact ⟨rfl,rfl⟩
theorem z8T (i n:Nat) (hi:i<n) (hn:n<=4611686018427387904) (w:World):Calls Tryz.prog 11 #[.int .u64 (i:Int),.int .u64 (n:Int)] w fun e w'=>
    ∃ v,e=.returned (.tuple #[v,.int .i64 0])/\w'.ownsRow w.heap.size 24 1 v (PLCS (PSP i n)).length (z06 (PLCS (PSP i n)))/\Below w.heap.size w w':=by
  have c1:=zbP i n hi hn w;have c2:=z6o i n hi hn;have c3:=z5o n hn;have hd:¬ (4611686018427387904:Int)<(n:Int):=by omega
  have hd2:¬ (n:Int)<=(i:Int):=by omega
  have hP:=z1P (n:=n) (by omega);have hP6:=z19 64 n (by omega);have hR6:=(z0R hi hn).2.1;have hKl:=z3b hi hn;rw [z6l hn];have hWl:=z6g i (RISE i n);generalize WAY i (RISE i n)=A at *
  generalize z0T n=PK at *
  generalize RISE i n=R at *
  generalize KTH i n=K at *
  generalize PC n=P at *
  obtain ⟨X,hX⟩:∃ X,A ++ PK.eraseIdx K=X:=⟨_,rfl⟩
  rw [hX];obtain ⟨N,hN⟩:∃ N,X.length=N:=⟨_,rfl⟩
  rw [hN];have HA:Aside (PK.length=P/\P<=64/\R<=62/\K<P/\A.length=R):=⟨hP,hP6,hR6,hKl,hWl⟩
  have HX:Aside (z0l A PK K P=X/\X.length=N):=⟨by rw [<-hX,<-hP];exact z7D _ _ _,hN⟩
  clear hX hN;clear hP hP6 hR6 hKl hWl hi hn;go_enter Tryz.func11,Tryz.ntmps11;go_wp2_with fail
  refine c1.mono ?_;rintro e w1 ⟨v,rfl,hown,hb⟩;clear c1;have R1:Aside (w1.ownsRow w.heap.size 24 1 v R (z06 A)/\Below w.heap.size w w1):=⟨hown,hb⟩
  clear hown hb;go_wp2_with fail
  refine (c2 _).mono ?_;rintro e w2 ⟨rfl,hb⟩;replace R1:Aside (w2.ownsRow w.heap.size 24 1 v R (z06 A)/\Below w.heap.size w w2):=⟨z0s R1.out.1 hb,R1.out.2.trans (hb.mono R1.out.2.size)⟩
  clear c2 hb;go_wp2_with fail
  refine (c3 _).mono ?_;rintro e w3 ⟨vp,rfl,hrow,hb2⟩;clear c3
  have R2:Aside (w3.ownsRow w.heap.size 24 1 v (z0l A PK K 0).length (z06 (z0l A PK K 0))/\Below w.heap.size w w3/\(∀ k,vp.ownBlock=some k->v.ownBlock≠some k)/\w3.ownsRow w2.heap.size 24 1 vp P (z06 PK)):=by
    obtain ⟨a1,a2⟩:=R1.out;refine ⟨?_,a2.trans (hb2.mono a2.size),fun k hk e=>?_,hrow⟩
    · rw [z6p,HA.out.2.2.2.2]
      exact z0s a1 hb2
    · have:=(a1.lt k e).2
      have:=(hrow.lt k hk).1;omega
  obtain ⟨ap,capp,rfl,hap⟩:=z4P hrow;clear R1 hrow hb2 hap;go_wp2;go_loopg [6,11] P (fun q s6 s11 wx=>∃ j:Nat,s11=.int .i64 (j:Int)/\Aside (j+q=P/\wx.ownsRow w.heap.size 24 1 s6 (z0l A PK K j).length (z06 (z0l A PK K j))/\Below w.heap.size w wx/\(∀ k,(Value.slice ap P capp).ownBlock=some k->s6.ownBlock≠some k)/\wx.ownsRow w2.heap.size 24 1 (.slice ap P capp) P (z06 PK)))
  case atStart=>exact ⟨0,rfl,by omega,R2.out⟩
  case round=>
    obtain ⟨j,rfl,A1⟩:=hrel;clear R2;cases gk with
    | zero=>
      obtain ⟨hj,hown,hbel,hne,hrow⟩:=A1.out;obtain rfl:j=P:=by omega
      have hlt:¬ (j:Int)<(j:Int):=by omega
      have R:Aside (wr.ownsRow w.heap.size 24 1 u6 N (z06 X)/\Below w.heap.size w wr):=by
        rw [HX.out.1,HX.out.2] at hown;exact ⟨hown,hbel⟩
      clear hj hown hbel hne hrow A1 HA;go_wp2;go_ret2;exact ⟨_,rfl,R.out.1,R.out.2⟩
    | succ q=>
      obtain ⟨hj,hown,hbel,hne,hrow⟩:=A1.out;obtain ⟨a1,a2,a3,a4,a5⟩:=HA.out;have hlt:(j:Int)<(P:Int):=by omega
      obtain ⟨ap',cap2,ee,hap⟩:=z4P hrow;cases ee;obtain ⟨gp,rfl,hgp,_⟩:=hap (by omega)
      have hc:wr.cell? ⟨gp,j,none⟩=some (.int .u64 ((PK.getD j 0:Nat):Int)):=by
        have hrow':=hrow;rw [<-a1] at hrow';exact z8O hrow' j (by omega)
      have hne':=hne gp rfl;have E1:Aside (wrap64 ((j:Int)+1)=((j+1:Nat):Int)):=by show wrap64 ((j:Int)+1)=((j+1:Nat):Int);unfold wrap64;omega
      by_cases hk:j=K
      · subst hk
        have R:Aside (j+1+q=P/\wr.ownsRow w.heap.size 24 1 u6 (z0l A PK j (j+1)).length (z06 (z0l A PK j (j+1)))/\Below w.heap.size w wr/\(∀ k,(Value.slice (some ⟨gp,0,none⟩) P capp).ownBlock=some k->u6.ownBlock≠some k)/\wr.ownsRow w2.heap.size 24 1 (.slice (some ⟨gp,0,none⟩) P capp) P (z06 PK)):=⟨by omega,by rw [z6q _ _ _ (by omega)];exact hown,hbel,hne,hrow⟩
        clear hj hown hbel hne hrow a1 a2 a3 a4 a5 A1 hap hne';generalize PK.getD j 0=y at hc;have e1:=E1.out;go_wp2;go_roundg q
        case measure=>exact Nat.lt_succ_self _
        case rel=>exact ⟨j+1,by first | rfl | (rw [E1.out]),R.out⟩
      · have hk':((j:Int) != (K:Int))=true:=by simp;omega
        have hnx:=z6r A PK K j (by omega) hk;have hll:=z4Q A PK K j;generalize PK.getD j 0=y at *
        have R:Aside (j+1+q=P/\wr.ownsRow w.heap.size 24 1 u6 (z0l A PK K j).length (z06 (z0l A PK K j))/\Below w.heap.size w wr/\u6.ownBlock≠some gp/\wr.ownsRow w2.heap.size 24 1 (.slice (some ⟨gp,0,none⟩) P capp) P (z06 PK)/\z0l A PK K (j+1)=z0l A PK K j ++ [y]/\(z0l A PK K j).length<=1000):=⟨by omega,hown,hbel,hne',hrow,hnx,by omega⟩
        clear hj hown hbel hne hrow a1 a2 a3 a4 a5 A1 hnx hll hap hne';go_wp2_with (at_builtin;refine z4d _ rfl (.tmp 40) (.tmp 45) rfl w.heap.size u6 _ (z06 (z0l A PK K j)) rfl (R.out.2.1.alloc _) wr.heap.size 1 (y:Int) rfl (by rw [World.cell?_alloc_at _ _ _ _ rfl];rfl) R.out.2.2.2.2.2.2 (by have:=R.out.2.2.1.size;simp;omega) ?_;intro g' cap' w4 hown hgrow hat hg)
        have R3:Aside (j+1+q=P/\w4.ownsRow w.heap.size 24 1 (.slice (some ⟨g',0,none⟩) ((z0l A PK K j).length+1) cap') (z0l A PK K (j+1)).length (z06 (z0l A PK K (j+1)))/\Below w.heap.size w w4/\(∀ k,(Value.slice (some ⟨gp,0,none⟩) P capp).ownBlock=some k->some g'≠some k)/\w4.ownsRow w2.heap.size 24 1 (.slice (some ⟨gp,0,none⟩) P capp) P (z06 PK)):=by
          obtain ⟨r1,r2,r3,r4,r5,r6,r7⟩:=R.out;have hgp:=r5.lt gp rfl;refine ⟨r1,?_,(r3.alloc r3.size _).grown hgrow (by have:=r3.size;simp;omega) (fun k e=>(r2.lt k e).1),fun k hk=>?_,(r5.alloc _).kept hgrow (.inr fun e=>r4 e.symm)⟩
          · rw [r6,z1E,List.length_append]
            exact hown
          · cases hk
            exact z3s r4 (by simp;omega) hat
        clear R hown hgrow hat hg hc;have e1:=E1.out;go_wp2;go_roundg q
        case measure=>exact Nat.lt_succ_self _
        case rel=>exact ⟨j+1,by first | rfl | (rw [E1.out]),R3.out⟩
theorem zdv (i n:Nat) (w:World):Calls Tryz.prog 11 #[.int .u64 (i:Int),.int .u64 (n:Int)] w fun e w'=>
  ∃ v,e=.returned (.tuple #[v,.int .i64 (PLA i n).1])/\w'.ownsRow w.heap.size 24 1 v (PLA i n).2.length (z06 (PLA i n).2)/\Below w.heap.size w w':=by
 unfold PLA;split
 ·refine (z76 _ _ (by omega) w).mono ?_
  rintro e w' ⟨rfl,rfl⟩;exact ⟨_,rfl,z2Z w,Below.refl _ _⟩
 ·split
  ·refine (z6u _ _ (by omega) (by omega) w).mono ?_
   rintro e w' ⟨rfl,rfl⟩;exact ⟨_,rfl,z2Z w,Below.refl _ _⟩
  ·exact z8T i n (by omega) (by omega) w
theorem z7T (m n:Int) (h:4611686018427387904<n\/n<m) (w:World):Calls Tryz.prog 15 #[.int .u64 m,.int .u64 n] w fun e w'=>e=.returned (.tuple #[.slice none 0 0,.int .i64 30])/\w=w':=by
 by_cases hd:4611686018427387904<n
 ·clear h
  go_enter Tryz.func15,Tryz.ntmps15;go_wp2;go_ret2;exact ⟨rfl,rfl⟩
 ·have hm:n<m:=by omega
  clear h;go_enter Tryz.func15,Tryz.ntmps15;go_wp2;go_ret2;exact ⟨rfl,rfl⟩
theorem z9P (a b:Nat) (hb:b<=4611686018427387904) (w:World):Calls Tryz.prog 44 #[.int .u64 (a:Int),.int .u64 (b:Int)] w fun e w'=>
  ∃ v,e=.returned v/\w'.ownsRow w.heap.size 101 2 v (SPAN a b).length (z0k (SPAN a b))/\Below w.heap.size w w':=by
 rcases Nat.lt_or_ge a b with h | h
 ·exact zbU a b h hb w
 ·refine (z8S a b (.inl h) w).mono ?_
  rintro e w' ⟨rfl,rfl⟩;refine ⟨_,rfl,?_,Below.refl _ _⟩;rw [z1i h];exact World.ownsRow_nil _ _ _ _
theorem z8U (m n:Nat) (hmn:m<=n) (hn:n<=4611686018427387904) (w:World):Calls Tryz.prog 15 #[.int .u64 (m:Int),.int .u64 (n:Int)] w fun e w'=>
    ∃ v,e=.returned (.tuple #[v,.int .i64 0])/\w'.ownsRow w.heap.size 24 1 v (PLCS (PXS m n)).length (z06 (PLCS (PXS m n)))/\Below w.heap.size w w':=by
  have c1:=z5o m (by omega) w;have hd:¬ (4611686018427387904:Int)<(n:Int):=by omega
  have hd2:¬ (n:Int)<(m:Int):=by omega
  have hd3:decide (n<m)=false:=by simp;omega
  have hd4:decide ((4611686018427387904:Int)<(n:Int))=false:=by simp;omega
  have c3:=z9P m n hn;have hP:=z1P (n:=m) (by omega);have hP6:=z19 64 m (by omega);have hS:=z1Y (a:=m) hn;have hnode:∀ j h k,(SPAN m n)[j]?=some (h,k)->Node h k:=fun j h k e=>(z2D hn hmn).node e;rw [z6m hmn hn];generalize z0T m=PK at *
  generalize PC m=P at *
  generalize SPAN m n=S at *
  obtain ⟨L,hL⟩:∃ L,S.length=L:=⟨_,rfl⟩
  rw [hL] at c3;obtain ⟨X,hX⟩:∃ X,PK ++ PLCS S=X:=⟨_,rfl⟩
  rw [hX];obtain ⟨N,hN⟩:∃ N,X.length=N:=⟨_,rfl⟩
  rw [hN];have HX:Aside (z0g PK S L=X/\X.length=N):=⟨by rw [<-hX,<-hL];simp [z0g],hN⟩
  clear hX hN;have HA:Aside (PK.length=P/\P<=64/\S.length=L/\L<=124/\∀ j h k,S[j]?=some (h,k)->Node h k):=⟨hP,hP6,hL,by omega,hnode⟩
  clear hP hP6 hS hL hnode hmn hn;go_enter Tryz.func15,Tryz.ntmps15;go_wp2_with fail
  refine c1.mono ?_;rintro e w1 ⟨v,rfl,hown,hb⟩;clear c1;have R1:Aside (w1.ownsRow w.heap.size 24 1 v P (z06 PK)/\Below w.heap.size w w1):=⟨hown,hb⟩
  clear hown hb;go_wp2_with fail
  refine (c3 _).mono ?_;rintro e w2 ⟨vs,rfl,hrow,hb2⟩;clear c3;obtain ⟨ga,capp,rfl,hsp⟩:=z2E HA.out.2.2.1 hrow
  have R2:Aside (w2.ownsRow w.heap.size 24 1 v (z0g PK S 0).length (z06 (z0g PK S 0))/\Below w.heap.size w w2/\(∀ k,(Value.slice ga L capp).ownBlock=some k->v.ownBlock≠some k)/\w2.ownsRow w1.heap.size 101 2 (.slice ga L capp) L (z0k S)):=by
    obtain ⟨a1,a2⟩:=R1.out;refine ⟨?_,a2.trans (hb2.mono a2.size),fun k hk e=>?_,hrow⟩
    · have:(z0g PK S 0)=PK:=by simp [z0g,PLCS]
      rw [this,HA.out.1];exact z0s a1 hb2
    · have:=(hrow.lt k hk).1
      have:=(a1.lt k e).2;omega
  clear R1 hrow hb2 hsp;go_wp2;go_loopg [6,8] L (fun q s6 s8 wx=>∃ j:Nat,s8=.int .i64 (j:Int)/\Aside (j+q=L/\wx.ownsRow w.heap.size 24 1 s6 (z0g PK S j).length (z06 (z0g PK S j))/\Below w.heap.size w wx/\(∀ k,(Value.slice ga L capp).ownBlock=some k->s6.ownBlock≠some k)/\wx.ownsRow w1.heap.size 101 2 (.slice ga L capp) L (z0k S)))
  case atStart=>exact ⟨0,rfl,by omega,R2.out⟩
  case round=>
    obtain ⟨j,rfl,A1⟩:=hrel;clear R2;cases gk with
    | zero=>
      obtain ⟨hj,hown,hbel,hne,hrow⟩:=A1.out;obtain rfl:j=L:=by omega
      have hlt:¬ (j:Int)<(j:Int):=by omega
      have R:Aside (wr.ownsRow w.heap.size 24 1 u6 N (z06 X)/\Below w.heap.size w wr):=by
        rw [HX.out.1,HX.out.2] at hown;exact ⟨hown,hbel⟩
      clear hj hown hbel hne hrow A1 HA;go_wp2;go_ret2;exact ⟨_,rfl,R.out.1,R.out.2⟩
    | succ q=>
      obtain ⟨hj,hown,hbel,hne,hrow⟩:=A1.out;obtain ⟨a1,a2,a3,a4,a5⟩:=HA.out;have hlt:(j:Int)<(L:Int):=by omega
      obtain ⟨ga',cap2,ee,hsp⟩:=z2E a3 hrow;cases ee;obtain ⟨gs,rfl,hgs,hcs⟩:=hsp (by omega);obtain ⟨h,k,eh⟩:=at_lt (l:=S) (i:=j) (by omega);obtain ⟨hy0,hy1⟩:=hcs j h k eh;have hN:=a5 j h k eh;have cp:=fun w=>z1Z h k hN w
      have hnx:z0g PK S (j+1)=z0g PK S j ++ [PLC h k]:=by
        unfold z0g;rw [z7F eh,List.append_assoc]
      have hll:(z0g PK S j).length<=188:=by
        unfold z0g;rw [List.length_append,z1D,List.length_take];omega
      generalize PLC h k=y at *
      have hne':=hne gs rfl;have R:Aside (j+1+q=L/\wr.ownsRow w.heap.size 24 1 u6 (z0g PK S j).length (z06 (z0g PK S j))/\Below w.heap.size w wr/\u6.ownBlock≠some gs/\wr.ownsRow w1.heap.size 101 2 (.slice (some ⟨gs,0,none⟩) L capp) L (z0k S)/\z0g PK S (j+1)=z0g PK S j ++ [y]/\(z0g PK S j).length<=1000):=⟨by omega,hown,hbel,hne',hrow,hnx,by omega⟩
      have E1:Aside (wrap64 ((j:Int)+1)=((j+1:Nat):Int)):=by show wrap64 ((j:Int)+1)=((j+1:Nat):Int);unfold wrap64;omega
      clear hj hown hbel hne hrow a1 a2 a3 a4 a5 A1 hnx hll hne' hN eh hcs hgs hsp;go_wp2_with fail
      refine (cp _).mono ?_;rintro e w3 ⟨rfl,hb3⟩;clear cp hy0 hy1
      have R2:Aside (w3.ownsRow w.heap.size 24 1 u6 (z0g PK S j).length (z06 (z0g PK S j))/\Below w.heap.size w w3/\w3.ownsRow w1.heap.size 101 2 (.slice (some ⟨gs,0,none⟩) L capp) L (z0k S)):=by
        obtain ⟨r1,r2,r3,r4,r5,r6,r7⟩:=R.out;exact ⟨z0s r2 hb3,r3.trans (hb3.mono r3.size),z0s r5 hb3⟩
      clear hb3;go_wp2_with (at_builtin;refine z4d _ rfl (.tmp 37) (.tmp 39) rfl w.heap.size u6 _ (z06 (z0g PK S j)) rfl (R2.out.1.alloc _) w3.heap.size 1 (y:Int) rfl (by rw [World.cell?_alloc_at _ _ _ _ rfl];rfl) R.out.2.2.2.2.2.2 (by have:=R2.out.2.1.size;simp;omega) ?_;intro g' cap' w4 hown hgrow hat hg)
      have R3:Aside (j+1+q=L/\w4.ownsRow w.heap.size 24 1 (.slice (some ⟨g',0,none⟩) ((z0g PK S j).length+1) cap') (z0g PK S (j+1)).length (z06 (z0g PK S (j+1)))/\Below w.heap.size w w4/\(∀ k,(Value.slice (some ⟨gs,0,none⟩) L capp).ownBlock=some k->some g'≠some k)/\w4.ownsRow w1.heap.size 101 2 (.slice (some ⟨gs,0,none⟩) L capp) L (z0k S)):=by
        obtain ⟨r1,_,_,r4,_,r6,r7⟩:=R.out;obtain ⟨r2,r3,r5⟩:=R2.out;have hgp:=r5.lt gs rfl;refine ⟨r1,?_,(r3.alloc r3.size _).grown hgrow (by have:=r3.size;simp;omega) (fun k e=>(r2.lt k e).1),fun k hk=>?_,(r5.alloc _).kept hgrow (.inr fun e=>r4 e.symm)⟩
        · rw [r6,z1E,List.length_append]
          exact hown
        · cases hk
          exact z3s r4 (by simp;omega) hat
      clear R R2 hown hgrow hat hg;have e1:=E1.out;go_wp2;go_roundg q
      case measure=>exact Nat.lt_succ_self _
      case rel=>exact ⟨j+1,by first | rfl | (rw [E1.out]),R3.out⟩
theorem zdw (m n:Nat) (w:World):Calls Tryz.prog 15 #[.int .u64 (m:Int),.int .u64 (n:Int)] w fun e w'=>
  ∃ v,e=.returned (.tuple #[v,.int .i64 (PPA m n).1])/\w'.ownsRow w.heap.size 24 1 v (PPA m n).2.length (z06 (PPA m n).2)/\Below w.heap.size w w':=by
 unfold PPA;split
 ·refine (z7T _ _ (by omega) w).mono ?_
  rintro e w' ⟨rfl,rfl⟩;exact ⟨_,rfl,z2Z w,Below.refl _ _⟩
 ·exact z8U m n (by omega) (by omega) w
theorem z1F {w w1 w2:World} {r r':Option Nat} (h:w.grownBy w1 r) (h':w1.grownBy w2 r') (hr:r'=r\/∀ g,r'=some g->w.heap.size<=g):w.grownBy w2 r:=by
 obtain ⟨a1,a2,a3,a4,a5⟩:=h;obtain ⟨b1,b2,b3,b4,b5⟩:=h';refine ⟨by rw [b1,a1],by rw [b2,a2],by rw [b3,a3],Nat.le_trans a4 b4,fun k hk hne=>?_⟩;rw [b5 k (by omega) (fun e=>?_),a5 k hk hne];rcases hr with hr | hr
 ·exact hne (by rw [e,hr])
 ·have:=hr k e.symm
  omega
theorem z2P {w w':World} {r:Option Nat} (h:w.grownBy w' r):w.heap.size<=w'.heap.size:=by
 obtain ⟨_,_,_,hs,_⟩:=h;exact hs
theorem z5q (w:World) (o:Obj) (r:Option Nat):w.grownBy (w.alloc o) r:=⟨rfl,rfl,rfl,by simp,fun k hk _=>heap_alloc_old w o hk⟩
theorem z4e {w:World} {B n g m c:Nat} {xs:List Value} (h:w.ownsRow B 24 1 (.slice (some ⟨g,0,none⟩) m c) n xs):m=n:=by
 rcases h.2 with ⟨e,_⟩ | ⟨_,_,_,e,_⟩
 ·simp at e
 ·simp at e
  omega
theorem z07 {ops:Array Oper} {o:Oper} {a:Act} {w w':World} {K:Act->World->Prop} {Q:Exit->Act->World->Prop} {E:Prop} {v:Value} (hg:o.guard=none)
  (hrun:(execOp a.eval o).run Tryz.prog w=.ok (.value v) w') (h:K (a.put o.dst v) w'):if Region.wanted o (yielded ops a.tmps)=true then Oper.wp Tryz.prog o a w K Q else E:=by
 have hw:Region.wanted o (yielded ops a.tmps)=true:=by simp [Region.wanted,hg]
 rw [if_pos hw];unfold Oper.wp;rw [hrun];exact h
theorem z1e {ops:Array Oper} {o:Oper} {a:Act} {w w':World} {K:Act->World->Prop} {Q:Exit->Act->World->Prop} {E:Prop} (hg:o.guard=none)
  (hrun:(execOp a.eval o).run Tryz.prog w=.ok .skip w') (h:K (a.put o.dst undef) w'):if Region.wanted o (yielded ops a.tmps)=true then Oper.wp Tryz.prog o a w K Q else E:=by
 have hw:Region.wanted o (yielded ops a.tmps)=true:=by simp [Region.wanted,hg]
 rw [if_pos hw];unfold Oper.wp;rw [hrun];exact h
theorem z1u {s:Sem Unit} {w w':World} (h:s.run Tryz.prog w=.ok () w'):(do s;pure Next.skip:Sem Next).run Tryz.prog w=.ok .skip w':=by
 simp [h]
theorem z2U {ops:Array Oper} {Q:Exit->Act->World->Prop} {md:Region.Mode} {S:World->Prop} {fuel:Nat} {listed:Array Bool} {a:Act} {w:World} {o:Oper} (i:Nat) (hr:Region.ready md ops listed=[i]) (ho:ops[i]?=some o)
  (h:∀ K':Act->World->Prop,Shut (∀ a w,S w->(S w->wpAnyH Tryz.prog md ops Q S fuel (listed.setIfInBounds i true) a w)->K' a w)->if Region.wanted o (yielded ops a.tmps)=true then Oper.wp Tryz.prog o a w K' Q else K' (a.put o.dst undef) w):wpAnyH Tryz.prog md ops Q S (fuel+1) listed a w:=
 wpAnyH_ready hr (by simp) (AllReadyH.cons ho h AllReadyH.nil)
theorem z08 {s:Sem Value} {w w':World} {v:Value} (h:s.run Tryz.prog w=.ok v w'):(do pure (Next.value (<-s)):Sem Next).run Tryz.prog w=.ok (.value v) w':=by
 simp [h,Result.andThen]
theorem z4C {w:World} {b o n c:Nat} {y:Value} {a:Option Addr} (h:w.cell? ⟨b,o,none⟩=some y) (hf:w.frozen? ⟨b,o,none⟩=false):(Instr.storeAt 22 (.pointer (some ⟨b,o,none⟩)) (.slice a n c)).run Tryz.prog w=.ok () (w.setCell ⟨b,o,none⟩ (.slice a n c)):=by go_simp
theorem z4f {w w':World} {B:Nat} {t:TypeId} {s:Nat} {v:Value} {n:Nat} {xs:List Value} (h:w.ownsRow B t s v n xs) (hk:∀ k,v.ownBlock=some k->w'.heap[k]?=w.heap[k]?):w'.ownsRow B t s v n xs:=by
 refine ⟨h.1,?_⟩;rcases h.2 with h | ⟨g,cap,cur,rfl,hb,hg,r⟩
 ·exact .inl h
 ·exact .inr ⟨g,cap,cur,rfl,hb,by rw [hk g rfl];exact hg,r⟩
def ZND:List Int:=List.replicate 32 0
abbrev ZARR:Array Value:=#[.int .u8 0,.int .u8 0,.int .u8 0,.int .u8 0,.int .u8 0,.int .u8 0,.int .u8 0,.int .u8 0,.int .u8 0,.int .u8 0,.int .u8 0,.int .u8 0,.int .u8 0,.int .u8 0,.int .u8 0,.int .u8 0,.int .u8 0,.int .u8 0,.int .u8 0,.int .u8 0,.int .u8 0,.int .u8 0,.int .u8 0,.int .u8 0,.int .u8 0,.int .u8 0,.int .u8 0,.int .u8 0,.int .u8 0,.int .u8 0,.int .u8 0,.int .u8 0]
theorem zgu:(z00 ZND).toArray=ZARR:=rfl
theorem z0F {fn:Func} {p q:Tmp} {ty:TypeId} (h:fn.results=#[.cell p ty,.tmp q]) (tmps:Array Value) (w:World) (g:Nat) (t:TypeId) (cs:Array Value) (fr:Nat × Nat) (k:Nat) (el:TypeId)
  (hp:tmps.getD p undef=.pointer (some ⟨g,0,none⟩)) (hg:w.heap[g]?=some (.cells cs t fr)) (v:Value) (hq:tmps.getD q undef=v)
  (hu:Tryz.prog.underlying ty=some (.array k el)) (hi:(Tryz.prog.info? ty).map (·.size)=some cs.size):
  (results fn tmps).run Tryz.prog w=.ok (.tuple #[.agg cs,v]) w:=by
 have hp':tmps[p]?.getD undef=.pointer (some ⟨g,0,none⟩):=by simpa using hp
 have hq':tmps[q]?.getD undef=v:=by simpa using hq
 simp [results,h,hp',hq',asAddr,run_loadVar_row w g t ty cs fr (.array k el) hg hu rfl hi]
theorem z2j:(Tryz.prog.info? 35).map (fun i=>(i.zero,i.size,i.bytes))=some (some (.agg ZARR),32,32):=by kernel_rfl
theorem z7G {ops:Array Oper} {rest:List Oper} {o:Oper} {a:Act} {Q:Exit->Act->World->Prop} (w:World) (hgd:o.guard=none) (s x:Operand)
  (ho:o.op=.call {callee:=.builtin .append,args:=#[s,x],argTypes:=#[22,22]})
  (base:Nat) (v:Value) (n:Nat) (xs:List Value) (hs:a.eval s=v) (hown:w.ownsRow base 35 32 v n xs)
  (b c:Nat) (y:List Int) (hl:y.length=32) (hx:a.eval x=.slice (some ⟨b,0,none⟩) 1 c) (hc:Has w b (z00 y).toArray 35)
  (hb:n<=100000) (hbase:base<=w.heap.size)
  (h:∀ g cap w',w'.ownsRow base 35 32 (.slice (some ⟨g,0,none⟩) (n+1) cap) (n+1) (xs ++ z00 y)->w.grownBy w' v.ownBlock->(v.ownBlock=some g\/g=w.heap.size)->g<w'.heap.size->wpList Tryz.prog ops Q rest (a.put o.dst (.slice (some ⟨g,0,none⟩) (n+1) cap)) w'):wpList Tryz.prog ops Q (o :: rest) a w:=by
 obtain ⟨i,hi,hz,hs1,hby⟩:=info_parts z2j;refine wpList_append_lies w hgd s x 22 ho base 35 i (.agg ZARR) 32 32 Tryz.underlying22 hi hz hs1 hby rfl (by decide) v n xs hs hown ⟨b,0,none⟩ 1 c (z00 y) hx (by rw [z00,List.length_map,hl]) ?_ (z1p y) (by decide) (by simp only [maxLen];omega) (by omega) hbase w.heap.size rfl h;intro j u hj;rw [z0O,Nat.zero_add,hc.cell,List.getElem?_toArray];exact hj
theorem z5N {ops:Array Oper} {rest:List Oper} {o:Oper} {a:Act} {Q:Exit->Act->World->Prop} (w:World) (hgd:o.guard=none) (s x:Operand)
  (ho:o.op=.call {callee:=.builtin .append,args:=#[s,x],argTypes:=#[22,22]})
  (base:Nat) (v:Value) (n:Nat) (xs:List Value) (hs:a.eval s=v) (hown:w.ownsRow base 35 32 v n xs)
  (b c:Nat) (y:List Int) (hl:y.length=32) (hx:a.eval x=.slice (some ⟨b,0,none⟩) 1 c) (hc:Has w b (z00 y).toArray 35)
  (hb:n<=1000) (hbase:base<=w.heap.size)
  (h:∀ g cap w',w'.ownsRow base 35 32 (.slice (some ⟨g,0,none⟩) (n+1) cap) (n+1) (xs ++ z00 y)->w.grownBy w' v.ownBlock->(v.ownBlock=some g\/g=w.heap.size)->g<w'.heap.size->wpList Tryz.prog ops Q rest (a.put o.dst (.slice (some ⟨g,0,none⟩) (n+1) cap)) w'):wpList Tryz.prog ops Q (o :: rest) a w:=
 z7G w hgd s x ho base v n xs hs hown b c y hl hx hc (by omega) hbase h
theorem z1g {ops:Array Oper} {rest:List Oper} {o:Oper} {a:Act} {Q:Exit->Act->World->Prop} (w:World) (hg:o.guard=none) (t e:TypeId) (x:Operand) (ho:o.op=.buildSlice t 1 #[(0,x)]) (C:Array Value) (hx:a.eval x=.agg C) (n:Nat) (z:Value) (by':Nat)
  (hu:Tryz.prog.underlying t=some (.slice e)) (hi:(Tryz.prog.info? e).map (fun i=>(i.zero,i.size,i.bytes))=some (some z,n,by')) (hC:C.size=n) (hz:z.cells.size=n) (hn:0<n) (hs:n<=1000)
  (h:wpList Tryz.prog ops Q rest (a.put o.dst (.slice (some ⟨w.heap.size,0,none⟩) 1 1)) (w.alloc (.cells C e))):wpList Tryz.prog ops Q (o :: rest) a w:=by
 obtain ⟨i,hie,hz',hs1,_⟩:=info_parts hi;refine wpList_buildSlice hg t e 1 _ ho C i z hu hie hz' (by rw [hs1];omega) (by rw [hs1];omega) ?_ h;have:=Great.fill_whole (s:=n) hn [.agg C] ((Array.range (1*i.size)).map (z.cells[· % z.cells.size]!)) (fun v hv=>by simp at hv;subst hv;exact hC) (by simp [hs1]);simp [Value.cells] at this;rw [hs1];simp [hx];rw [hs1] at this;exact this
theorem z5r (d:Nat) (h g:List Int) (hh:h.length=32) (hg:g.length=32) (w:World):∀ is:List Nat,(∀ i∈is,i<32)->(Op.eqItems (d+1) 5 1 (z00 h).toArray (z00 g).toArray is).run Tryz.prog w=.ok (is.all fun i=>h.getD i 0 == g.getD i 0) w
 | [],_=>by simp [Op.eqItems]
 | i :: is,hi=>by
   have hp:Tryz.prog.plainKey 5=true:=by kernel_rfl
   have hi32:i<32:=hi i (by simp);have h1:=run_part_plain (P:=Tryz.prog) w hp (show (z00 h).toArray[i]?=some (.int .u8 (h.getD i 0)) by rw [List.getElem?_toArray,z0y h i (by omega)]);have h2:=run_part_plain (P:=Tryz.prog) w hp (show (z00 g).toArray[i]?=some (.int .u8 (g.getD i 0)) by rw [List.getElem?_toArray,z0y g i (by omega)]);have h3:=run_equalIn_int (P:=Tryz.prog) w d 5 .u8 .u8 (h.getD i 0) (g.getD i 0) Tryz.underlying5;have ih:=z5r d h g hh hg w is (fun j hj=>hi j (by simp [hj]));rw [Op.eqItems,Nat.mul_one];simp only [Sem.run_bind,h1,h2,h3,Result.andThen_ok];by_cases e:h.getD i 0=g.getD i 0
   ·have e2:(h.getD i 0 == g.getD i 0)=true:=by simpa using e
    rw [List.all_cons,e2,Bool.true_and,if_neg (by simp)];exact ih
   ·have e2:(h.getD i 0 == g.getD i 0)=false:=by simpa using e
    rw [List.all_cons,e2];simp
theorem z5s (h g:List Int) (hh:h.length=32) (hg:g.length=32) (w:World):(Op.equalIn 10000 35 (.agg (z00 h).toArray) (.agg (z00 g).toArray)).run Tryz.prog w=.ok ((List.range 32).all fun i=>h.getD i 0 == g.getD i 0) w:=by
 obtain ⟨i8,hi,_⟩:=Option.map_eq_some_iff.1 z0Q;rw [run_equalIn_array (P:=Tryz.prog) w 9999 (z00 h).toArray (z00 g).toArray Tryz.underlying35 hi];have hc:Tryz.prog.cellsOf 5=1:=by kernel_rfl
 rw [hc];exact z5r 9998 h g hh hg w _ (fun i hi=>by simpa using hi)
theorem zdx (h:List Int) (hh:h.length=32) (x y:Operand) (w:World):(do eqGuard .neq 35 x y (.agg (z00 h).toArray) (.agg (z00 h).toArray);binOp .neq 35 (.agg (z00 h).toArray) (.agg (z00 h).toArray):Sem Value).run Tryz.prog w=.ok (.bool false) w:=by
 simp only [Sem.run_bind,run_eqGuard_agg (P:=Tryz.prog) w .neq 35 x y _ _ (by kernel_rfl),Result.andThen_ok,run_neq_struct,z5s h h hh hh];simp
theorem zdy {h g:List Int} (hh:h.length=32) (hg:g.length=32):((List.range 32).all fun i=>h.getD i 0 == g.getD i 0)=decide (h=g):=by
 by_cases e:h=g
 ·subst e
  simp
 ·rw [decide_eq_false e,Bool.eq_false_iff]
  intro hx;rw [List.all_eq_true] at hx;apply e;apply List.ext_getElem (by omega);intro i h1 h2;have:=hx i (by simp;omega);simpa [List.getD,h1,h2] using this
theorem z8V {h g:List Int} (hh:h.length=32) (hg:g.length=32) (w:World):(Op.equalIn 10000 35 (.agg (z00 h).toArray) (.agg (z00 g).toArray)).run Tryz.prog w=.ok (decide (h=g)) w:=by
 rw [z5s h g hh hg,zdy hh hg]
theorem zbV {h g:List Int} (hh:h.length=32) (hg:g.length=32) (x y:Operand) (w:World):(do eqGuard .neq 35 x y (.agg (z00 h).toArray) (.agg (z00 g).toArray);binOp .neq 35 (.agg (z00 h).toArray) (.agg (z00 g).toArray):Sem Value).run Tryz.prog w=.ok (.bool (!decide (h=g))) w:=by
 simp only [Sem.run_bind,run_eqGuard_agg (P:=Tryz.prog) w .neq 35 x y _ _ (by kernel_rfl),Result.andThen_ok,run_neq_struct,z8V hh hg]
theorem zbW:(Tryz.prog.info? 35).map (fun i=>(i.size,i.bytes,i.zero.isSome))=some (32,32,true):=by kernel_rfl
theorem z6v (N:Nat) (hN:N<=1000) (w:World):∃ cur:Array Value,cur.size=N*32/\(Instr.makeSlice 22 (.int .i64 0) (.int .i64 (N:Int))).run Tryz.prog w=.ok (.slice (some ⟨w.heap.size,0,none⟩) 0 N) (w.alloc (.cells cur 35)):=by
 obtain ⟨i,hi,h⟩:=Option.map_eq_some_iff.1 zbW;simp only [Prod.mk.injEq] at h;obtain ⟨h1,h2,h3⟩:=h;obtain ⟨z,hz⟩:=Option.isSome_iff_exists.1 h3;have h:=run_make (P:=Tryz.prog) w 22 35 i z Tryz.underlying22 hi hz .i64 .i64 0 N (by omega) (by omega) (by rw [h2];omega) (by omega);refine ⟨madeCells z.cells (N*i.size),?_,?_⟩
 ·rw [size_madeCells,h1]
 ·simpa using h
end Go.Proofs.YthmnailmbgondaaGreatDoor
namespace Go.Proofs.YthmnailmbgondaaGreatDoor
open Go.RowKit Go.Maps
set_option maxRecDepth 100000
theorem z5A:laidOutB Tryz.prog=true:=by kernel_rfl
theorem zaL:(101:TypeId)<Tryz.prog.types.size:=of_decide_eq_true (by kernel_rfl)
theorem zf9:(match Tryz.prog.underlying 101 with | some (.array _ _) | some (.struct _)=>true | _=>false)=true:=by rw [Tryz.underlying101]
theorem law:Keyed Tryz.prog 101:=Keyed.of_law (deep_law_laid z5A (m:=2) (by omega) zaL (by kernel_rfl) zf9)
def KL (h k:Nat):Lit:=.string (keyBytes [.int .u8 (h:Int),.int .u64 (k:Int)])
theorem z8W {h k:Nat} (hh:h<256) (hk:k<2 ^ 64):keyOf Tryz.prog 101 (SPOT h k)=some (KL h k):=by
 have w0:(Lit.int .u8 (h:Int)).wf=true:=WalkArith.wf_u8 (by omega);have w1:(Lit.int .u64 (k:Int)).wf=true:=WalkArith.wf_u64 (by omega);have c3:Tryz.prog.cellsOf 101=2:=by kernel_rfl
 have c1:Tryz.prog.cellsOf 5=1:=by kernel_rfl
 have c2:Tryz.prog.cellsOf 24=1:=by kernel_rfl
 have ht:Tryz.prog.keyType 101=true:=by kernel_rfl
 have hf:(SPOT h k).formed Tryz.prog 101=true:=by simp [Value.formed,Tryz.underlying101,c3]
 obtain ⟨m,hm⟩:∃ m,Tryz.prog.types.size=m+1:=⟨Tryz.prog.types.size - 1,(Nat.succ_pred_eq_of_pos (Nat.lt_of_le_of_lt (Nat.zero_le _) zaL)).symm⟩
 unfold keyOf;simp only [Tryz.underlying101,ht,hf,hm];simp [Program.keyLits,Tryz.underlying101,Tryz.underlying5,Tryz.underlying24,c1,c2,c3,Value.cells,w0,w1,KL]
theorem zhm {h k h' k':Nat} (hh:h<256) (hk:k<2 ^ 64) (hh':h'<256) (hk':k'<2 ^ 64) (e:KL h k=KL h' k'):h=h'/\k=k':=by
 have h1:=z8W hh hk;have h2:=z8W hh' hk';rw [<-e] at h2;have:=law.inj h1 h2;simp at this;omega
abbrev U64 (n:Nat):DataW Unit:=.lit (.int .u64 (n:Int))
def MapOk (D:DataW Unit) (m:Nat):Prop:=∀ h k,h<256->k<2 ^ 64->(Maps.has D (KL h k)=true↔Node h k/\PLC h k<m)/\(Node h k->PLC h k<m->D.atKey (KL h k) (U64 0)=U64 (PLC h k))
theorem MapOk.none:MapOk (.map []) 0:=fun h k _ _=>⟨⟨fun e=>by simp [Maps.has] at e,fun e=>by omega⟩,fun _ e=>by omega⟩
theorem Node.small {h k:Nat} (a:Node h k):h<256/\k<2 ^ 64:=⟨by have:=a.1;omega,by have:=a.index_lt;omega⟩
theorem MapOk.put {D:DataW Unit} {m h k:Nat} (hD:Maps.IsMap D) (hM:MapOk D m) (hN:Node h k) (hp:PLC h k=m):MapOk (D.put (KL h k) (U64 m)) (m+1):=by
 intro h' k' hh' hk';obtain ⟨hh,hk⟩:=hN.small;have hkey:WideAt.IsKeyLit (KL h k):=law.key (z8W hh hk);by_cases e:KL h' k'=KL h k
 ·obtain ⟨rfl,rfl⟩:=zhm hh' hk' hh hk e
  exact ⟨⟨fun _=>⟨hN,by omega⟩,fun _=>Maps.has_put_same hD hkey _⟩,fun _ _=>by rw [Maps.atKey_put_same hD hkey,hp]⟩
 ·have hne:∀ _:Node h' k',PLC h' k'≠m:=fun hN' e2=>e (by obtain ⟨rfl,rfl⟩:=hN'.one hN (by omega);rfl)
  rw [Maps.has_put_other e,Maps.atKey_put_other e];obtain ⟨a,b⟩:=hM h' k' hh' hk';refine ⟨⟨fun h=>?_,fun h=>?_⟩,fun h1 h2=>b h1 (by have:=hne h1;omega)⟩
  ·have:=a.1 h
   exact ⟨this.1,by omega⟩
  ·exact a.2 ⟨h.1,by have:=hne h.1;omega⟩
def Placed (w:World) (b m:Nat):Prop:=∃ D:DataW Unit,w.ownsMap Tryz.prog 101 (plainElem Tryz.prog 24) b m D/\MapOk D m
theorem Placed.made (w:World):Placed (w.alloc (.map #[] 0)) w.heap.size 0:=⟨_,World.ownsMap_made w _ _ _,MapOk.none⟩
theorem Placed.kept {w w':World} {b m:Nat} {row:Option Nat} (h:Placed w b m) (hg:w.grownBy w' row) (hne:some b≠row):Placed w' b m:=let ⟨D,h1,h2⟩:=h; ⟨D,h1.kept hg hne,h2⟩
theorem Placed.lt {w:World} {b m:Nat} (h:Placed w b m):b<w.heap.size:=let ⟨_,h1,_⟩:=h;h1.lt
theorem Placed.below {w w':World} {b m:Nat} (h:Placed w b m) (hb:Below w.heap.size w w'):Placed w' b m:=by
 have hlt:=h.lt;obtain ⟨D,⟨es,clock,h1,r⟩,h2⟩:=h;exact ⟨D,⟨es,clock,(hb.block b hlt).trans h1,r⟩,h2⟩
theorem Placed.alloc {w:World} {b m:Nat} (h:Placed w b m) (o:Obj):Placed (w.alloc o) b m:=h.below ((Below.refl _ _).alloc (Nat.le_refl _) _)
theorem Placed.setCell {w:World} {b m:Nat} (h:Placed w b m) {a:Addr} (ha:b≠a.block) (u:Value):Placed (w.setCell a u) b m:=let ⟨D,h1,h2⟩:=h; ⟨D,h1.setCell ha u,h2⟩
def RV (v:Value):Option (DataW Value × List MemPlace):=some (.held v,[])
theorem z1J (w:World):(zeroValue 35).run Tryz.prog w=.ok (.agg ZARR) w:=by kernel_rfl
def SMAP (w:World) (b n:Nat) (M:Nat->Nat->List Int):Prop:=∃ D:DataW Value,w.ownsMap Tryz.prog 101 RV b n D/\∀ h k,h<256->k<2 ^ 64->D.atKey (KL h k) (.held (.agg ZARR))=.held (.agg (z00 (M h k)).toArray)
theorem SMAP.made (w:World):SMAP (w.alloc (.map #[] 0)) w.heap.size 0 (fun _ _=>ZND):=⟨_,World.ownsMap_made w _ _ _,fun h k _ _=>by simp [DataW.atKey];rfl⟩
theorem SMAP.lt {w:World} {b n:Nat} {M:Nat->Nat->List Int} (h:SMAP w b n M):b<w.heap.size:=let ⟨_,h1,_⟩:=h;h1.lt
theorem SMAP.at {w w':World} {b n:Nat} {M:Nat->Nat->List Int} (h:SMAP w b n M) (hb:w'.heap[b]?=w.heap[b]?):SMAP w' b n M:=by
 obtain ⟨D,⟨es,clock,h1,r⟩,h2⟩:=h;exact ⟨D,⟨es,clock,hb.trans h1,r⟩,h2⟩
theorem SMAP.below {w w':World} {b n:Nat} {M:Nat->Nat->List Int} (h:SMAP w b n M) (hb:Below w.heap.size w w'):SMAP w' b n M:=h.at (hb.block b h.lt)
end Go.Proofs.YthmnailmbgondaaGreatDoor
namespace Go.Proofs.YthmnailmbgondaaGreatDoor
open Go.RowKit
set_option maxRecDepth 100000
def LST (f:Nat->Nat):List Int:=(List.range 32).map fun i=>((f i:Nat):Int)
def FNC (h:List Int) (i:Nat):Nat:=(h.getD i 0).toNat
def IsH (h:List Int):Prop:=h.length=32/\∀ x∈h,0<=x/\x<=255
theorem z6w (f:Nat->Nat):(LST f).length=32:=by simp [LST]
theorem zdz {f:Nat->Nat} (h:∀ i,f i<256):IsH (LST f):=⟨z6w f,fun x hx=>by
 obtain ⟨i,_,rfl⟩:=List.mem_map.1 hx;have:=h i;omega⟩
theorem z4g (f:Nat->Nat):HX.UARR .u8 32 f=(z00 (LST f)).toArray:=by
 unfold HX.UARR z00 LST;rw [List.map_map];rfl
theorem zaM {h:List Int} (hh:IsH h):LST (FNC h)=h:=by
 apply List.ext_getElem (by rw [z6w,hh.1]);intro i h1 h2;simp only [LST,List.getElem_map,List.getElem_range,FNC];have:=hh.2 h[i] (List.getElem_mem h2);rw [List.getD_eq_getElem?_getD,List.getElem?_eq_getElem h2,Option.getD_some];omega
theorem z4h {h:List Int} (hh:IsH h):(z00 h).toArray=HX.UARR .u8 32 (FNC h):=by rw [z4g,zaM hh]
theorem z6x {h:List Int} (hh:IsH h) (i:Nat):FNC h i<256:=by
 unfold FNC;by_cases hi:i<h.length
 ·rw [List.getD_eq_getElem?_getD,List.getElem?_eq_getElem hi,Option.getD_some]
  have:=hh.2 h[i] (List.getElem_mem hi);omega
 ·rw [List.getD_eq_getElem?_getD,List.getElem?_eq_none (by omega)]
  decide
def NATS (h:List Int):List Nat:=(List.range 32).map (FNC h)
def z0Y (d:Int) (l r:List Int):List Int:=LST (HX.z0G d (1 :: (NATS l ++ NATS r)))
theorem zfa (d:Int) (l r:List Int):IsH (z0Y d l r):=zdz fun i=>HX.z32 d _ _ i
end Go.Proofs.YthmnailmbgondaaGreatDoor
