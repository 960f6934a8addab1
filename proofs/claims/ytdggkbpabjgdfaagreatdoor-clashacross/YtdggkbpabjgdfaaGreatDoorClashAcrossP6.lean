/- ClashAcross: part 6. -/
import Derived.Deep.MidRow
import Derived.Deep.CutRange
import Derived.Test.YtdggkbpabjgdfaaGreatDoorClashAcrossP5
set_option maxHeartbeats 1000000
namespace Go.Proofs.YtdggkbpabjgdfaaGreatDoor
open Go.RowKit
def z0l (PK:List Nat) (S:List (Nat × Nat)) (j:Nat):List Nat:=PK ++ PLCS (S.take j)
theorem zbk (i n:Int) (hn:4611686018427387904<n) (w:World):Calls Tryz.prog 68 #[.int .u64 i,.int .u64 n] w fun e w'=>e=.returned (.tuple #[.slice none 0 0,.int .i64 30])/\w=w':=by
 go_enter Tryz.func68,Tryz.ntmps68;go_wp2;go_ret2;exact ⟨rfl,rfl⟩
theorem zab (i n:Int) (hn:¬ 4611686018427387904<n) (hi:¬ i<n) (w:World):Calls Tryz.prog 68 #[.int .u64 i,.int .u64 n] w fun e w'=>e=.returned (.tuple #[.slice none 0 0,.int .i64 32])/\w=w':=by
 have c:=zga i n (by omega);clear hi;go_enter Tryz.func68,Tryz.ntmps68;go_wp2_with fail
 refine (c _).mono ?_;rintro e w' ⟨rfl,rfl⟩;clear c;go_wp2;go_ret2;exact ⟨rfl,rfl⟩
theorem z3T {w:World} {v:Value} {g gp:Nat} (hne:v.ownBlock≠some gp) (hgp:gp<w.heap.size) (hat:v.ownBlock=some g\/g=w.heap.size):some g≠some gp:=by
 intro e;have e:g=gp:=by simpa using e
 subst e;rcases hat with h | h
 ·exact hne h
 ·omega
def z0w (A P:List Nat) (K j:Nat):List Nat:=A ++ (P.take j).eraseIdx K
theorem z7d (A P:List Nat) (K:Nat):z0w A P K 0=A:=by simp [z0w]
theorem z8L (A P:List Nat) (K:Nat):z0w A P K P.length=A ++ P.eraseIdx K:=by simp [z0w]
theorem z8M {P:List Nat} {j:Nat} (hj:j<P.length):P.take (j+1)=P.take j ++ [P.getD j 0]:=by
 rw [List.take_add_one,List.getD,List.getElem?_eq_getElem hj];rfl
theorem z7e (A P:List Nat) (K:Nat) (hK:K<P.length):z0w A P K (K+1)=z0w A P K K:=by
 unfold z0w;rw [z8M hK,z79,if_pos (by rw [List.length_take];omega)]
theorem z7f (A P:List Nat) (K j:Nat) (hj:j<P.length) (hK:j≠K):z0w A P K (j+1)=z0w A P K j ++ [P.getD j 0]:=by
 unfold z0w;rw [z8M hj,z79,if_neg (by rw [List.length_take];omega),List.append_assoc]
theorem z5l (A P:List Nat) (K j:Nat):(z0w A P K j).length<=A.length+P.length:=by
 unfold z0w;rw [List.length_append];have h1:=List.length_eraseIdx_le (P.take j) K;have h2:=List.length_take_le' j P;omega
theorem zeC (i n:Nat) (hi:i<n) (hn:n<=4611686018427387904) (w:World) (hT:Tabled w) (h0:0<w.heap.size):Calls Tryz.prog 68 #[.int .u64 (i:Int),.int .u64 (n:Int)] w fun e w'=>
    ∃ v,e=.returned (.tuple #[v,.int .i64 0])/\w'.ownsRow w.heap.size 22 1 v (PLCS (PSP i n)).length (z04 (PLCS (PSP i n)))/\Below w.heap.size w w':=by
  have c1:=z87 i n hi hn w;have c2:=zhH i n hi hn;have hd:¬ (4611686018427387904:Int)<(n:Int):=by omega
  have C3:Aside (∀ W,Below w.heap.size w W->Calls Tryz.prog 87 #[.int .u64 (n:Int)] W fun e w'=>∃ g cap,e=.returned (.slice (some ⟨g,0,none⟩) (PC n) cap)/\w'.ownsRow W.heap.size 22 1 (.slice (some ⟨g,0,none⟩) (PC n) cap) (PC n) (z04 (z1h n))/\Below W.heap.size W w'):=
    fun W h=>z6C n hn W (hT.below h0 h) (Nat.lt_of_lt_of_le h0 h.size)
  have hP:=z1Q (n:=n) (by omega);have hP6:=z0C 64 n (by omega);have hR6:=(z0L hi hn).2.1;have hKl:=z2I hi hn;rw [z7a hn];have hWl:=z76 i (RISE i n);generalize WAY i (RISE i n)=A at *
  generalize z1h n=PK at *
  generalize RISE i n=R at *
  generalize KTH i n=K at *
  generalize PC n=P at *
  obtain ⟨X,hX⟩:∃ X,A ++ PK.eraseIdx K=X:=⟨_,rfl⟩
  rw [hX];obtain ⟨N,hN⟩:∃ N,X.length=N:=⟨_,rfl⟩
  rw [hN];have HA:Aside (PK.length=P/\P<=64/\R<=62/\K<P/\A.length=R):=⟨hP,hP6,hR6,hKl,hWl⟩
  have HX:Aside (z0w A PK K P=X/\X.length=N):=⟨by rw [<-hX,<-hP];exact z8L _ _ _,hN⟩
  clear hX hN;clear hP hP6 hR6 hKl hWl hT h0 hi hn;go_enter Tryz.func68,Tryz.ntmps68;go_wp2_with fail
  refine c1.mono ?_;rintro e w1 ⟨g,cap,rfl,hown,hg,hb⟩;clear c1;have R1:Aside (w1.ownsRow w.heap.size 22 1 (.slice (some ⟨g,0,none⟩) R cap) R (z04 A)/\Below w.heap.size w w1/\g<w1.heap.size):=⟨hown,hb,hg⟩
  clear hown hg hb;go_wp2_with fail
  refine (c2 _).mono ?_;rintro e w' ⟨rfl,rfl⟩;clear c2;go_wp2_with fail
  refine (C3.out _ R1.out.2.1).mono ?_;rintro e w2 ⟨gp,capp,rfl,hrow,hb2⟩
  have R2:Aside (w2.ownsRow w.heap.size 22 1 (.slice (some ⟨g,0,none⟩) R cap) (z0w A PK K 0).length (z04 (z0w A PK K 0))/\Below w.heap.size w w2/\some g≠some gp/\w2.ownsRow w1.heap.size 22 1 (.slice (some ⟨gp,0,none⟩) P capp) P (z04 PK)):=by
    obtain ⟨a1,a2,a3⟩:=R1.out;have hgp:=hrow.lt gp rfl;refine ⟨?_,a2.trans (hb2.mono a2.size),fun e=>?_,hrow⟩
    · rw [z7d,HA.out.2.2.2.2]
      exact z0m a1 hb2
    · have e:g=gp:=by simpa using e
      omega
  clear R1 hrow hb2 C3;go_wp2;go_loopg [6,31] P (fun q s6 s31 wx=>∃ j:Nat,s31=.int .i64 (j:Int)/\Aside (j+q=P/\wx.ownsRow w.heap.size 22 1 s6 (z0w A PK K j).length (z04 (z0w A PK K j))/\Below w.heap.size w wx/\s6.ownBlock≠some gp/\wx.ownsRow w1.heap.size 22 1 (.slice (some ⟨gp,0,none⟩) P capp) P (z04 PK)))
  case atStart=>exact ⟨0,rfl,by omega,R2.out.1,R2.out.2.1,R2.out.2.2.1,R2.out.2.2.2⟩
  case round=>
    obtain ⟨j,rfl,A1⟩:=hrel;clear R2;cases gk with
    | zero=>
      obtain ⟨hj,hown,hbel,hne,hrow⟩:=A1.out;obtain rfl:j=P:=by omega
      have hlt:¬ (j:Int)<(j:Int):=by omega
      have R:Aside (wr.ownsRow w.heap.size 22 1 u6 N (z04 X)/\Below w.heap.size w wr):=by
        rw [HX.out.1,HX.out.2] at hown;exact ⟨hown,hbel⟩
      clear hj hown hbel hne hrow A1 HA;go_wp2;go_ret2;exact ⟨_,rfl,R.out.1,R.out.2⟩
    | succ q=>
      obtain ⟨hj,hown,hbel,hne,hrow⟩:=A1.out;obtain ⟨a1,a2,a3,a4,a5⟩:=HA.out;have hlt:(j:Int)<(P:Int):=by omega
      have hc:wr.cell? ⟨gp,j,none⟩=some (.int .u64 ((PK.getD j 0:Nat):Int)):=by
        have hrow':=hrow;rw [<-a1] at hrow';exact zeA hrow' j (by omega)
      have e1:wrap64 ((j:Int)+1)=((j+1:Nat):Int):=by unfold wrap64;omega
      by_cases hk:j=K
      · subst hk
        have R:Aside (j+1+q=P/\wr.ownsRow w.heap.size 22 1 u6 (z0w A PK j (j+1)).length (z04 (z0w A PK j (j+1)))/\Below w.heap.size w wr/\u6.ownBlock≠some gp/\wr.ownsRow w1.heap.size 22 1 (.slice (some ⟨gp,0,none⟩) P capp) P (z04 PK)):=⟨by omega,by rw [z7e _ _ _ (by omega)];exact hown,hbel,hne,hrow⟩
        clear hj hown hbel hne hrow a1 a2 a3 a4 a5 A1;generalize PK.getD j 0=y at hc;go_wp2;go_roundg q
        case measure=>omega
        case rel=>exact ⟨j+1,by first | rfl | (rw [e1]),R.out⟩
      · have hk':((j:Int) != (K:Int))=true:=by simp;omega
        have hnx:=z7f A PK K j (by omega) hk;have hll:=z5l A PK K j;generalize PK.getD j 0=y at *
        have R:Aside (j+1+q=P/\wr.ownsRow w.heap.size 22 1 u6 (z0w A PK K j).length (z04 (z0w A PK K j))/\Below w.heap.size w wr/\u6.ownBlock≠some gp/\wr.ownsRow w1.heap.size 22 1 (.slice (some ⟨gp,0,none⟩) P capp) P (z04 PK)/\z0w A PK K (j+1)=z0w A PK K j ++ [y]/\(z0w A PK K j).length<=1000):=⟨by omega,hown,hbel,hne,hrow,hnx,by omega⟩
        clear hj hown hbel hne hrow a1 a2 a3 a4 a5 A1 hnx hll;go_wp2_with (at_builtin;refine z4F _ rfl (.tmp 39) (.tmp 41) rfl w.heap.size u6 _ (z04 (z0w A PK K j)) rfl (R.out.2.1.alloc _) wr.heap.size 1 (y:Int) rfl (by rw [World.cell?_alloc_at _ _ _ _ rfl];rfl) R.out.2.2.2.2.2.2 (by have:=R.out.2.2.1.size;simp;omega) ?_;intro g' cap' w3 hown hgrow hat hg)
        have R3:Aside (j+1+q=P/\w3.ownsRow w.heap.size 22 1 (.slice (some ⟨g',0,none⟩) ((z0w A PK K j).length+1) cap') (z0w A PK K (j+1)).length (z04 (z0w A PK K (j+1)))/\Below w.heap.size w w3/\some g'≠some gp/\w3.ownsRow w1.heap.size 22 1 (.slice (some ⟨gp,0,none⟩) P capp) P (z04 PK)):=by
          obtain ⟨r1,r2,r3,r4,r5,r6,r7⟩:=R.out;have hgp:=r5.lt gp rfl;refine ⟨r1,?_,(r3.alloc r3.size _).grown hgrow (by have:=r3.size;simp;omega) (fun k e=>(r2.lt k e).1),z3T r4 (by simp;omega) hat,(r5.alloc _).kept hgrow (.inr fun e=>r4 e.symm)⟩;rw [r6,z26,List.length_append];exact hown
        clear R hown hgrow hat hg hc;go_wp2;go_roundg q
        case measure=>omega
        case rel=>exact ⟨j+1,by first | rfl | (rw [e1]),R3.out⟩
theorem z6H (m n:Int) (h:4611686018427387904<n\/n<m) (w:World):Calls Tryz.prog 48 #[.int .u64 m,.int .u64 n] w fun e w'=>e=.returned (.tuple #[.slice none 0 0,.int .i64 30])/\w=w':=by
 by_cases hd:4611686018427387904<n
 ·clear h
  go_enter Tryz.func48,Tryz.ntmps48;go_wp2;go_ret2;exact ⟨rfl,rfl⟩
 ·have hm:n<m:=by omega
  clear h;go_enter Tryz.func48,Tryz.ntmps48;go_wp2;go_ret2;exact ⟨rfl,rfl⟩
theorem z8N {l:List (Nat × Nat)} {j h k:Nat} (e:l[j]?=some (h,k)):PLCS (l.take (j+1))=PLCS (l.take j) ++ [PLC h k]:=by
 rw [(zhO e).2,z49];rfl
theorem z7g (m n:Nat) (hmn:m<=n) (hn:n<=4611686018427387904) (w:World) (hT:Tabled w) (h0:0<w.heap.size):Calls Tryz.prog 48 #[.int .u64 (m:Int),.int .u64 (n:Int)] w fun e w'=>
    ∃ v,e=.returned (.tuple #[v,.int .i64 0])/\w'.ownsRow w.heap.size 22 1 v (PLCS (PXS m n)).length (z04 (PLCS (PXS m n)))/\Below w.heap.size w w':=by
  have c1:=z6C m (by omega) w hT h0;have hd:¬ (4611686018427387904:Int)<(n:Int):=by omega
  have hd2:¬ (n:Int)<(m:Int):=by omega
  have C3:Aside (∀ W,Below w.heap.size w W->Calls Tryz.prog 88 #[.int .u64 (m:Int),.int .u64 (n:Int)] W fun e w'=>∃ v,e=.returned v/\w'.ownsRow W.heap.size 77 2 v (SPAN m n).length (z07 (SPAN m n))/\Below W.heap.size W w'):=
    fun W h=>zhN m n (by omega) hn W (hT.below h0 h) (Nat.lt_of_lt_of_le h0 h.size)
  have hP:=z1Q (n:=m) (by omega);have hP6:=z0C 64 m (by omega);have hS:=z1L (a:=m) hn;have hnode:∀ j h k,(SPAN m n)[j]?=some (h,k)->Node h k:=fun j h k e=>(z0T hn hmn).node e;rw [z7b hmn hn];generalize z1h m=PK at *
  generalize PC m=P at *
  generalize SPAN m n=S at *
  obtain ⟨L,hL⟩:∃ L,S.length=L:=⟨_,rfl⟩
  rw [hL] at C3;obtain ⟨X,hX⟩:∃ X,PK ++ PLCS S=X:=⟨_,rfl⟩
  rw [hX];obtain ⟨N,hN⟩:∃ N,X.length=N:=⟨_,rfl⟩
  rw [hN];have HX:Aside (z0l PK S L=X/\X.length=N):=⟨by rw [<-hX,<-hL];simp [z0l],hN⟩
  clear hX hN;have HA:Aside (PK.length=P/\P<=64/\S.length=L/\L<=124/\∀ j h k,S[j]?=some (h,k)->Node h k):=⟨hP,hP6,hL,by omega,hnode⟩
  clear hP hP6 hS hL hnode hT h0 hmn hn;go_enter Tryz.func48,Tryz.ntmps48;go_wp2_with fail
  refine c1.mono ?_;rintro e w1 ⟨g,cap,rfl,hown,hb⟩;clear c1;have R1:Aside (w1.ownsRow w.heap.size 22 1 (.slice (some ⟨g,0,none⟩) P cap) P (z04 PK)/\Below w.heap.size w w1/\g<w1.heap.size):=⟨hown,hb,(hown.lt g rfl).2⟩
  clear hown hb;go_wp2_with fail
  refine (C3.out _ R1.out.2.1).mono ?_;rintro e w2 ⟨v,rfl,hrow,hb2⟩;obtain ⟨ga,capp,rfl,hsp⟩:=z2A HA.out.2.2.1 hrow
  have R2:Aside (w2.ownsRow w.heap.size 22 1 (.slice (some ⟨g,0,none⟩) P cap) (z0l PK S 0).length (z04 (z0l PK S 0))/\Below w.heap.size w w2/\(∀ k,(Value.slice ga L capp).ownBlock=some k->some g≠some k)/\w2.ownsRow w1.heap.size 77 2 (.slice ga L capp) L (z07 S)):=by
    obtain ⟨a1,a2,a3⟩:=R1.out;refine ⟨?_,a2.trans (hb2.mono a2.size),fun k hk e=>?_,hrow⟩
    · have:(z0l PK S 0)=PK:=by simp [z0l,PLCS]
      rw [this,HA.out.1];exact z0m a1 hb2
    · have e:g=k:=by simpa using e
      have:=(hrow.lt k hk).1;omega
  clear R1 hrow hb2 C3 hsp;go_wp2;go_loopg [6,24] L (fun q s6 s24 wx=>∃ j:Nat,s24=.int .i64 (j:Int)/\Aside (j+q=L/\wx.ownsRow w.heap.size 22 1 s6 (z0l PK S j).length (z04 (z0l PK S j))/\Below w.heap.size w wx/\(∀ k,(Value.slice ga L capp).ownBlock=some k->s6.ownBlock≠some k)/\wx.ownsRow w1.heap.size 77 2 (.slice ga L capp) L (z07 S)))
  case atStart=>exact ⟨0,rfl,by omega,R2.out⟩
  case round=>
    obtain ⟨j,rfl,A1⟩:=hrel;clear R2;cases gk with
    | zero=>
      obtain ⟨hj,hown,hbel,hne,hrow⟩:=A1.out;obtain rfl:j=L:=by omega
      have hlt:¬ (j:Int)<(j:Int):=by omega
      have R:Aside (wr.ownsRow w.heap.size 22 1 u6 N (z04 X)/\Below w.heap.size w wr):=by
        rw [HX.out.1,HX.out.2] at hown;exact ⟨hown,hbel⟩
      clear hj hown hbel hne hrow A1 HA;go_wp2;go_ret2;exact ⟨_,rfl,R.out.1,R.out.2⟩
    | succ q=>
      obtain ⟨hj,hown,hbel,hne,hrow⟩:=A1.out;obtain ⟨a1,a2,a3,a4,a5⟩:=HA.out;have hlt:(j:Int)<(L:Int):=by omega
      obtain ⟨ga',cap2,ee,hsp⟩:=z2A a3 hrow;cases ee;obtain ⟨gs,rfl,hgs,hcs⟩:=hsp (by omega);obtain ⟨h,k,eh⟩:=at_lt (l:=S) (i:=j) (by omega);obtain ⟨hy0,hy1⟩:=hcs j h k eh;have hN:=a5 j h k eh;have cp:=fun w=>zg4 h k hN w
      have hnx:z0l PK S (j+1)=z0l PK S j ++ [PLC h k]:=by
        unfold z0l;rw [z8N eh,List.append_assoc]
      have hll:(z0l PK S j).length<=188:=by
        unfold z0l;rw [List.length_append,z0u,List.length_take];omega
      generalize PLC h k=y at *
      have e1:wrap64 ((j:Int)+1)=((j+1:Nat):Int):=by unfold wrap64;omega
      have hne':=hne gs rfl;have R:Aside (j+1+q=L/\wr.ownsRow w.heap.size 22 1 u6 (z0l PK S j).length (z04 (z0l PK S j))/\Below w.heap.size w wr/\u6.ownBlock≠some gs/\wr.ownsRow w1.heap.size 77 2 (.slice (some ⟨gs,0,none⟩) L capp) L (z07 S)/\z0l PK S (j+1)=z0l PK S j ++ [y]/\(z0l PK S j).length<=1000):=⟨by omega,hown,hbel,hne',hrow,hnx,by omega⟩
      clear hj hown hbel hne hrow a1 a2 a3 a4 a5 A1 hnx hll hne' hN eh hcs hgs hsp;go_wp2_with fail
      refine (cp _).mono ?_;rintro e w3 ⟨rfl,hb3⟩;clear cp hy0 hy1
      have R2:Aside (w3.ownsRow w.heap.size 22 1 u6 (z0l PK S j).length (z04 (z0l PK S j))/\Below w.heap.size w w3/\w3.ownsRow w1.heap.size 77 2 (.slice (some ⟨gs,0,none⟩) L capp) L (z07 S)):=by
        obtain ⟨r1,r2,r3,r4,r5,r6,r7⟩:=R.out;exact ⟨z0m (r2.alloc _) hb3,(r3.alloc r3.size _).trans (hb3.mono (by have:=r3.size;simp;omega)),z0m (r5.alloc _) hb3⟩
      clear hb3;go_wp2_with (at_builtin;refine z4F _ rfl (.tmp 33) (.tmp 35) rfl w.heap.size u6 _ (z04 (z0l PK S j)) rfl (R2.out.1.alloc _) w3.heap.size 1 (y:Int) rfl (by rw [World.cell?_alloc_at _ _ _ _ rfl];rfl) R.out.2.2.2.2.2.2 (by have:=R2.out.2.1.size;simp;omega) ?_;intro g' cap' w4 hown hgrow hat hg)
      have R3:Aside (j+1+q=L/\w4.ownsRow w.heap.size 22 1 (.slice (some ⟨g',0,none⟩) ((z0l PK S j).length+1) cap') (z0l PK S (j+1)).length (z04 (z0l PK S (j+1)))/\Below w.heap.size w w4/\(∀ k,(Value.slice (some ⟨gs,0,none⟩) L capp).ownBlock=some k->some g'≠some k)/\w4.ownsRow w1.heap.size 77 2 (.slice (some ⟨gs,0,none⟩) L capp) L (z07 S)):=by
        obtain ⟨r1,_,_,r4,_,r6,r7⟩:=R.out;obtain ⟨r2,r3,r5⟩:=R2.out;have hgp:=r5.lt gs rfl;refine ⟨r1,?_,(r3.alloc r3.size _).grown hgrow (by have:=r3.size;simp;omega) (fun k e=>(r2.lt k e).1),fun k hk=>?_,(r5.alloc _).kept hgrow (.inr fun e=>r4 e.symm)⟩
        · rw [r6,z26,List.length_append]
          exact hown
        · cases hk
          exact z3T r4 (by simp;omega) hat
      clear R R2 hown hgrow hat hg;go_wp2;go_roundg q
      case measure=>omega
      case rel=>exact ⟨j+1,by first | rfl | (rw [e1]),R3.out⟩
end Go.Proofs.YtdggkbpabjgdfaaGreatDoor
namespace Go.Proofs.YtdggkbpabjgdfaaGreatDoor
open Go.RowKit
set_option maxRecDepth 100000
def Flat (w:World) (a:Option Addr) (n:Nat) (l:List Int):Prop:=
 l.length=32*n/\(0<n->∃ b o,a=some ⟨b,o,none⟩/\b<w.heap.size/\∀ j,j<32*n->w.cell? ⟨b,o+j,none⟩=some (.int .u8 (l.getD j 0)))/\∀ x∈l,0<=x/\x<=255
theorem Flat.below {w w':World} {a:Option Addr} {n:Nat} {l:List Int} (h:Flat w a n l) (hb:Below w.heap.size w w'):Flat w' a n l:=
 ⟨h.1,fun hn=>by
  obtain ⟨b,o,e,hl,hc⟩:=h.2.1 hn;exact ⟨b,o,e,Nat.lt_of_lt_of_le hl hb.size,fun i hi=>(hb.cell (by exact hl)).trans (hc i hi)⟩,h.2.2⟩
def HSH (l:List Int) (i:Nat):List Int:=(l.drop (32*i)).take 32
theorem z16 {l:List Int} {n i:Nat} (hl:l.length=32*n) (hi:i<n):(HSH l i).length=32:=by
 unfold HSH;rw [List.length_take,List.length_drop];omega
theorem zac {l:List Int} {i j:Nat} (hj:j<32):(HSH l i).getD j 0=l.getD (32*i+j) 0:=by
 unfold HSH;rw [List.getD_eq_getElem?_getD,List.getElem?_take,if_pos hj,List.getElem?_drop,List.getD_eq_getElem?_getD]
theorem zhP {l:List Int} {i:Nat} {x:Int} (h:x∈HSH l i):x∈l:=List.mem_of_mem_drop (List.mem_of_mem_take h)
theorem z3E (l:List Int) (i:Nat):l.take (32*(i+1))=l.take (32*i) ++ HSH l i:=by
 unfold HSH;rw [show 32*(i+1)=32*i+32 by omega,List.take_add]
theorem z6b:(Tryz.prog.info? 24).map (·.size)=some 32:=by kernel_rfl
theorem z09 {h:List Int} (hl:h.length=32):(Tryz.prog.info? 24).map (·.size)=some (z01 h).length:=by
 rw [z6b,show (z01 h).length=32 by simp [z01,hl]]
theorem z02 {h:List Int} (hl:h.length=32):(Tryz.prog.info? 24).map (·.size)=some (z01 h).toArray.size:=by
 rw [z6b,show (z01 h).toArray.size=32 by simp [z01,hl]]
theorem z0k (h:List Int):(z01 h).toArray.all (·.oneCell')=true:=by
 rw [Array.all_eq_true_iff_forall_mem];intro v hv;exact z1y h v (by simpa using hv)
theorem Flat.at {w:World} {b o n:Nat} {l:List Int} {i:Nat} (h:Flat w (some ⟨b,o,none⟩) n l) (hi:i<n):w.rangeAt b (o+i*32) (z01 (HSH l i)):=by
 intro j v hv;obtain ⟨b',o',e,_,hc⟩:=h.2.1 (by omega);simp only [Option.some.injEq,Addr.mk.injEq] at e;obtain ⟨rfl,rfl,_⟩:=e
 have hj:j<32:=by
  have:=(List.getElem?_eq_some_iff.1 hv).1;rw [show (z01 (HSH l i)).length=32 by simp [z01,z16 h.1 hi]] at this;exact this
 rw [z0G _ _ (by rw [z16 h.1 hi];exact hj),zac hj] at hv;rw [show o+i*32+j=o+(32*i+j) by omega,hc _ (by omega)];exact hv
theorem z60 (w:World) (x:Int):(w.alloc (.cells #[.int .u8 x] 5)).ownsRow w.heap.size 5 1 (.slice (some ⟨w.heap.size,0,none⟩) 1 1) 1 (z01 [x]):=
 World.ownsRow_lit w #[.int .u8 x] 1 (Nat.le_refl _) (by simp [maxLen]) rfl
def PLA (i n:Nat):Int × List Nat:=if 4611686018427387904<n then (30,[]) else if n<=i then (32,[]) else (0,PLCS (PSP i n))
def PPA (m n:Nat):Int × List Nat:=if 4611686018427387904<n\/n<m then (30,[]) else (0,PLCS (PXS m n))
theorem z8e (i n:Nat):(PLA i n).2.length<=188:=by
 unfold PLA;split
 ·simp
 ·split
  ·simp
  ·have:=z5Y (i:=i) (n:=n) (by omega) (by omega)
   simp only [z0u];omega
theorem z8f (m n:Nat):(PPA m n).2.length<=188:=by
 unfold PPA;split
 ·simp
 ·have:=z2K (m:=m) (n:=n) (by omega) (by omega)
  simp only [z0u];omega
theorem z3t (w:World):w.ownsRow w.heap.size 22 1 (.slice none 0 0) ([]:List Nat).length (z04 []):=World.ownsRow_nil _ _ _ _
theorem z7h (i n:Nat) (w:World) (hT:Tabled w) (h0:0<w.heap.size):Calls Tryz.prog 68 #[.int .u64 (i:Int),.int .u64 (n:Int)] w fun e w'=>
  ∃ v,e=.returned (.tuple #[v,.int .i64 (PLA i n).1])/\w'.ownsRow w.heap.size 22 1 v (PLA i n).2.length (z04 (PLA i n).2)/\Below w.heap.size w w':=by
 unfold PLA;split
 ·refine (zbk _ _ (by omega) w).mono ?_
  rintro e w' ⟨rfl,rfl⟩;exact ⟨_,rfl,z3t w,Below.refl _ _⟩
 ·split
  ·refine (zab _ _ (by omega) (by omega) w).mono ?_
   rintro e w' ⟨rfl,rfl⟩;exact ⟨_,rfl,z3t w,Below.refl _ _⟩
  ·exact zeC i n (by omega) (by omega) w hT h0
theorem z5m (m n:Nat) (w:World) (hT:Tabled w) (h0:0<w.heap.size):Calls Tryz.prog 48 #[.int .u64 (m:Int),.int .u64 (n:Int)] w fun e w'=>
  ∃ v,e=.returned (.tuple #[v,.int .i64 (PPA m n).1])/\w'.ownsRow w.heap.size 22 1 v (PPA m n).2.length (z04 (PPA m n).2)/\Below w.heap.size w w':=by
 unfold PPA;split
 ·refine (z6H _ _ (by omega) w).mono ?_
  rintro e w' ⟨rfl,rfl⟩;exact ⟨_,rfl,z3t w,Below.refl _ _⟩
 ·exact z7g m n (by omega) (by omega) w hT h0
def ENCB (k E:Int) (P n X Y:Nat) (l:List Int):Int × List Int:=if E≠0 then (E,[]) else if n≠P then (70,[]) else (0,k :: (z0s X ++ z0s Y ++ l))
def ENC (S I n:Nat) (l:List Int):Int × List Int:=ENCB 77 (PLA I S).1 (PLA I S).2.length n S I l
def ENX (F S n:Nat) (l:List Int):Int × List Int:=ENCB 80 (PPA F S).1 (PPA F S).2.length n F S l
theorem z3m (w:World) (b:Nat):w.ownsRow b 5 1 (.slice none 0 0) ([]:List Int).length (z01 []):=World.ownsRow_nil _ _ _ _
def ANSB (w:World) (A:Int × List Int) (e:Ending) (w':World):Prop:=∃ v,e=.returned (.tuple #[v,.int .i64 A.1])/\w'.ownsRow w.heap.size 5 1 v A.2.length (z01 A.2)/\Below w.heap.size w w'
end Go.Proofs.YtdggkbpabjgdfaaGreatDoor
namespace Go.Proofs.YtdggkbpabjgdfaaGreatDoor
open Go.RowKit
theorem z5n (a b:Nat) (h:b<=a\/4611686018427387904<b) (w:World):Calls Tryz.prog 36 #[.int .u64 (a:Int),.int .u64 (b:Int)] w fun e w'=>e=.returned (.slice none 0 0)/\w=w':=by
 have hg1:b<=a\/(¬ b<=a/\(4611686018427387904:Int)<(b:Int)):=by
  by_cases c:b<=a
  ·exact .inl c
  ·exact .inr ⟨c,by omega⟩
 clear h;rcases hg1 with hg1 | ⟨hg1,hg2⟩
 all_goals
  go_enter Tryz.func36,Tryz.ntmps36;go_wp2;go_ret;exact ⟨rfl,rfl⟩
theorem zd0 (h:Nat) (hh:h<62):wrap64 ((h+1:Nat):Int)=((h+1:Nat):Int):=by unfold wrap64;omega
theorem zgp (h:Nat) (hh:h<=62):wrap64 ((h:Int)+1)=((h+1:Nat):Int):=by unfold wrap64;omega
theorem z7i (a b:Nat) (hab:a<b) (hb:b<=4611686018427387904) (w:World):Calls Tryz.prog 36 #[.int .u64 (a:Int),.int .u64 (b:Int)] w fun e w'=>
    ∃ v,e=.returned v/\w'.ownsRow w.heap.size 77 2 v (SPAN a b).length (z07 (SPAN a b))/\Below w.heap.size w w':=by
  have HB:Aside (b<=4611686018427387904):=hb;have hg1:¬ b<=a:=by omega
  have hg2:¬ (4611686018427387904:Int)<(b:Int):=by omega
  go_enter Tryz.func36,Tryz.ntmps36;go_wp2;clear hg1 hg2;go_loopg [0,5] (b - a) (fun g s0 s5 wx=>∃ (c:Nat) (pre:List (Nat × Nat)),s0=.int .u64 (c:Int)/\Aside (g=b - c/\c<=b/\pre ++ SPAN c b=SPAN a b/\wx.ownsRow w.heap.size 77 2 s5 pre.length (z07 pre)/\Below w.heap.size w wx))
  case atStart=>exact ⟨a,[],rfl,rfl,Nat.le_of_lt hab,rfl,World.ownsRow_nil _ _ _ _,Below.refl _ _⟩
  case round=>
    obtain ⟨c,pre,rfl,A⟩:=hrel;obtain ⟨hg,hc,hp,hown,hbel⟩:=A.out;by_cases hlt:c<b
    · have hlt' : (c:Int)<(b:Int):=by omega
      obtain ⟨s1,s2,s3⟩:=z2h hlt hb;have hsp:=z1o hlt;have hpos:=Nat.two_pow_pos (HT c b)
      have hpl:pre.length<=1000:=by
        have:=congrArg List.length hp;have:=z1L (a:=a) hb;rw [List.length_append] at *
        omega
      obtain ⟨HH,hHH⟩:∃ HH,HT c b=HH:=⟨_,rfl⟩
      rw [hHH] at s1 s2 s3 hsp hpos;have R:Aside (gk=b - c/\c<=b/\pre ++ SPAN c b=SPAN a b/\wr.ownsRow w.heap.size 77 2 u5 pre.length (z07 pre)/\Below w.heap.size w wr/\HH<=62/\Fit c HH b/\¬ Fit c (HH+1) b/\0<2 ^ HH/\pre.length<=1000/\SPAN c b=(HH,c / 2 ^ HH) :: SPAN (c+2 ^ HH) b):=⟨hg,hc,hp,hown,hbel,s1,s2,s3,hpos,hpl,hsp⟩
      clear s1 s2 s3 hsp hpos hpl hg hc hp hown hbel A hHH hlt;go_wp2;go_loopg [6] HH (fun g s6 wx=>∃ h:Nat,s6=.int .i64 (h:Int)/\h+g=HH/\wx=wr)
      case atStart=>exact ⟨0,rfl,by omega,rfl⟩
      case round=>
        obtain ⟨h,rfl,hh,rfl⟩:=hrel;obtain ⟨q1,q2,q3,q4,q5,q6,q7,q8,q9,q10,q11⟩:=R.out;obtain ⟨d,hd⟩:∃ d,b - c=d:=⟨_,rfl⟩
        have HES:Aside (IntKind.u64.wrap ((b:Int) - (c:Int))=(d:Int)):=by
          show IntKind.u64.wrap ((b:Int) - (c:Int))=(d:Int)
          rw [z08];omega
        have hz0:(0:Int)<=(h:Int):=Int.natCast_nonneg h;have cp0:=z1b h (by omega);obtain ⟨P0,hP0⟩:∃ P0,2 ^ h=P0:=⟨_,rfl⟩
        rw [hP0] at cp0;cases gk with
        | zero=>
          obtain rfl:h=HH:=by omega
          have hP0p:0<P0:=by rw [<-hP0];exact q9
          have hP0n:¬ P0=0:=Nat.ne_of_gt hP0p;have hP0i:¬ (P0:Int)=0:=fun e=>hP0n (Int.ofNat.inj e);have hP0':((P0:Int) == 0)=false:=by simp;exact hP0n
          obtain ⟨K,hK⟩:∃ K,c / P0=K:=⟨_,rfl⟩
          have hq1:(c:Int) / (P0:Int)=(K:Int):=by rw [<-Int.natCast_ediv,hK]
          have hq2:(c:Int).tdiv (P0:Int)=(K:Int):=by rw [Int.tdiv_eq_ediv_of_nonneg (Int.natCast_nonneg c)];exact hq1
          have hKc:K<=c:=by rw [<-hK];exact Nat.div_le_self _ _
          have hb62:=HB.out;have hf2:=q7.2;rw [hP0] at hf2 q11 q9;rw [hK] at q11;obtain ⟨c',hc'⟩:∃ c',c+P0=c':=⟨_,rfl⟩
          rw [hc'] at q11 hf2;have hc2:c'<2 ^ 64:=by omega
          have e8:(h:Int) % 256=(h:Int):=by omega
          have HQ:Aside (IntKind.u64.wrap (K:Int)=(K:Int)/\IntKind.u64.wrap ((c:Int)+(P0:Int))=(c':Int)):=⟨by rw [z08];omega,by rw [z08];omega⟩
          have U:Aside (gk=b - c/\c'<=b/\b - c'<gk/\(pre ++ [(h,K)]) ++ SPAN c' b=SPAN a b):=⟨q1,hf2,by omega,by rw [<-q3,q11];simp⟩
          have hcase:(¬ (h:Int)<62)\/((h:Int)<62/\∃ (h1 P1 r:Nat),(h:Int)+1=(h1:Int)/\Aside (wrap64 (h1:Int)=(h1:Int))/\¬ P1=0/\¬ (P1:Int)=0/\((P1:Int) == 0)=false/\(∀ w,Calls Tryz.prog 58 #[.int .i64 (h1:Int)] w fun e w'=>e=.returned (.int .u64 (P1:Int))/\w=w')/\(c:Int) % (P1:Int)=(r:Int)/\(c:Int).tmod (P1:Int)=(r:Int)/\(((r:Int) == 0)=false/\¬ r=0\/r=0/\¬ P1<=d/\¬ (P1:Int)<=(d:Int)/\¬ (P1:Int)<=(b:Int) - (c:Int))):=by
            by_cases h62:(h:Int)<62
            · right
              have hpp:=Nat.two_pow_pos (h+1);have e1:(c:Int) % ((2 ^ (h+1):Nat):Int)=((c % 2 ^ (h+1):Nat):Int):=(Int.natCast_emod _ _).symm;refine ⟨h62,h+1,2 ^ (h+1),c % 2 ^ (h+1),rfl,zd0 h (by omega),Nat.ne_of_gt hpp,fun e=>Nat.ne_of_gt hpp (Int.ofNat.inj e),?_,z1b (h+1) (by omega),e1,by rw [Int.tmod_eq_emod_of_nonneg (Int.natCast_nonneg c)];exact e1,?_⟩
              · rw [beq_eq_false_iff_ne]
                exact fun e=>Nat.ne_of_gt hpp (Int.ofNat.inj e)
              · by_cases hm:c % 2 ^ (h+1)=0
                · right
                  have hn:¬ 2 ^ (h+1)<=d:=fun hle=>q8 ⟨hm,by omega⟩;exact ⟨hm,hn,fun e=>hn (Int.ofNat_le.1 e),by omega⟩
                · left
                  refine ⟨?_,hm⟩;rw [beq_eq_false_iff_ne];exact fun e=>hm (Int.ofNat.inj e)
            · exact .inl h62
          clear q1 q2 q3 q6 q7 q8 q9 q11 hP0p hK hKc hb62 hf2 hc2 hd hh hP0 hc';rcases hcase with h62 | ⟨h62,h1,P1,r,hh1',HH2,hp1,hp2,hp3,cp1,hr1,hr2,hh3⟩
          · clear q4 q5 q10
            have hq3:=HQ.out.1;have hq4:=HQ.out.2;go_wp2_with fail
            refine (cp0 _).mono ?_;rintro e w' ⟨rfl,rfl⟩;go_wp2_with (at_builtin;refine z2T _ rfl (.tmp 39) (.tmp 47) rfl w.heap.size u5 pre.length pre rfl (R.out.2.2.2.1.alloc _) _ 1 h K rfl ((Has.at _ _ _ (by simp)).cell 0) ((Has.at _ _ _ (by simp)).cell 1) R.out.2.2.2.2.2.2.2.2.2.1 (Nat.le_trans R.out.2.2.2.2.1.size (by simp)) ?_;intro g' cap w1 hown hgrow hg)
            refine (cp0 _).mono ?_;rintro e w' ⟨rfl,rfl⟩;clear hq3;go_wp2;go_roundg (b - c')
            case measure=>exact U.out.2.2.1
            case rel=>
              obtain ⟨u1,u2,u3,u4⟩:=U.out;have r5:=R.out.2.2.2.2.1;exact ⟨c',pre ++ [(h,K)],rfl,rfl,u2,u4,by rw [List.length_append];exact hown,(r5.alloc r5.size _).grown hgrow (Nat.le_trans r5.size (by simp)) (fun k e=>(R.out.2.2.2.1.lt k e).1)⟩
          · have hh2':=HH2.out
            clear q4 q5 q10;rcases hh3 with ⟨hr3,hr4⟩ | ⟨rfl,hd1,hd2,hd3⟩
            · have hr5:¬ (c:Int).tmod (P1:Int)=0:=fun e=>hr4 (Int.ofNat.inj (hr2.symm.trans e))
              have hr6:¬ (c:Int) % (P1:Int)=0:=fun e=>hr4 (Int.ofNat.inj (hr1.symm.trans e));clear hr1 hr2 hr3 hr4;go_wp2_with fail
              refine (cp1 _).mono ?_;rintro e w' ⟨rfl,rfl⟩;clear hh2' hh1';have hq3:=HQ.out.1;have hq4:=HQ.out.2;go_wp2_with fail
              refine (cp0 _).mono ?_;rintro e w' ⟨rfl,rfl⟩;go_wp2_with (at_builtin;refine z2T _ rfl (.tmp 39) (.tmp 47) rfl w.heap.size u5 pre.length pre rfl (R.out.2.2.2.1.alloc _) _ 1 h K rfl ((Has.at _ _ _ (by simp)).cell 0) ((Has.at _ _ _ (by simp)).cell 1) R.out.2.2.2.2.2.2.2.2.2.1 (Nat.le_trans R.out.2.2.2.2.1.size (by simp)) ?_;intro g' cap w1 hown hgrow hg)
              refine (cp0 _).mono ?_;rintro e w' ⟨rfl,rfl⟩;clear hq3;go_wp2;go_roundg (b - c')
              case measure=>exact U.out.2.2.1
              case rel=>
                obtain ⟨u1,u2,u3,u4⟩:=U.out;have r5:=R.out.2.2.2.2.1;exact ⟨c',pre ++ [(h,K)],rfl,rfl,u2,u4,by rw [List.length_append];exact hown,(r5.alloc r5.size _).grown hgrow (Nat.le_trans r5.size (by simp)) (fun k e=>(R.out.2.2.2.1.lt k e).1)⟩
            · have hes:=HES.out
              go_wp2_with fail
              refine (cp1 _).mono ?_;rintro e w' ⟨rfl,rfl⟩;go_wp2_with fail
              refine (cp1 _).mono ?_;rintro e w' ⟨rfl,rfl⟩;clear hh2' hh1' hes;have hq3:=HQ.out.1;have hq4:=HQ.out.2;go_wp2_with fail
              refine (cp0 _).mono ?_;rintro e w' ⟨rfl,rfl⟩;go_wp2_with (at_builtin;refine z2T _ rfl (.tmp 39) (.tmp 47) rfl w.heap.size u5 pre.length pre rfl (R.out.2.2.2.1.alloc _) _ 1 h K rfl ((Has.at _ _ _ (by simp)).cell 0) ((Has.at _ _ _ (by simp)).cell 1) R.out.2.2.2.2.2.2.2.2.2.1 (Nat.le_trans R.out.2.2.2.2.1.size (by simp)) ?_;intro g' cap w1 hown hgrow hg)
              refine (cp0 _).mono ?_;rintro e w' ⟨rfl,rfl⟩;clear hq3;go_wp2;go_roundg (b - c')
              case measure=>exact U.out.2.2.1
              case rel=>
                obtain ⟨u1,u2,u3,u4⟩:=U.out;have r5:=R.out.2.2.2.2.1;exact ⟨c',pre ++ [(h,K)],rfl,rfl,u2,u4,by rw [List.length_append];exact hown,(r5.alloc r5.size _).grown hgrow (Nat.le_trans r5.size (by simp)) (fun k e=>(R.out.2.2.2.1.lt k e).1)⟩
        | succ g=>
          have h62:(h:Int)<62:=by omega
          have hf:=q7.le (h+1) (by omega);have cp1:=z1b (h+1) (by omega);have HW:Aside (wrap64 ((h:Int)+1)=((h+1:Nat):Int)):=zgp h (by omega);obtain ⟨P1,hP1⟩:∃ P1,2 ^ (h+1)=P1:=⟨_,rfl⟩
          obtain ⟨h1,hh1⟩:∃ h1,h+1=h1:=⟨_,rfl⟩
          have hf1:=hf.1;have hf2:=hf.2;rw [hP1] at hf1 hf2 cp1;rw [hh1] at cp1 HW;have hP1p:0<P1:=by rw [<-hP1];exact Nat.two_pow_pos _
          have hr1:(c:Int) % (P1:Int)=0:=by rw [<-Int.natCast_emod,hf1];rfl
          clear hf1;have hr2:(c:Int).tmod (P1:Int)=0:=by rw [Int.tmod_eq_emod_of_nonneg (Int.natCast_nonneg c)];exact hr1
          have hP0n:¬ P1=0:=Nat.ne_of_gt hP1p;have hP0i:¬ (P1:Int)=0:=fun e=>hP0n (Int.ofNat.inj e);have hP0':((P1:Int) == 0)=false:=by simp;exact hP0n
          have hle:P1<=d:=Nat.le_of_add_le_add_left (a:=c) (by rw [<-hd,Nat.add_sub_cancel' q2];exact hf2);have hle':(P1:Int)<=(d:Int):=Int.ofNat_le.2 hle;have hh1':(h:Int)+1=(h1:Int):=by rw [<-hh1];rfl
          have hh2':wrap64 (h1:Int)=(h1:Int):=by have:=HW.out;rw [hh1'] at this;exact this
          have V:Aside (h1+g=HH):=by rw [<-hh,<-hh1,Nat.add_assoc,Nat.add_comm 1 g];rfl
          clear q1 q2 q3 q4 q5 q6 q7 q8 q9 q10 q11 hf hf2 hP1 hh1 hP1p hd hh hP0 cp0;have hes:=HES.out;go_wp2_with fail
          refine (cp1 _).mono ?_;rintro e w' ⟨rfl,rfl⟩;go_wp2_with fail
          refine (cp1 _).mono ?_;rintro e w' ⟨rfl,rfl⟩;go_wp2;go_roundg g
          case measure=>exact Nat.lt_succ_self _
          case rel=>exact ⟨h1,rfl,V.out,rfl⟩
    · have hlt':¬ (c:Int)<(b:Int):=by omega
      rw [z17 (a:=c) (by omega),List.append_nil] at hp;have R:Aside (wr.ownsRow w.heap.size 77 2 u5 (SPAN a b).length (z07 (SPAN a b))/\Below w.heap.size w wr):=⟨by rw [<-hp];exact hown,hbel⟩
      clear hg hc hp hown hbel A;go_wp2;go_ret;exact ⟨u5,rfl,R.out.1,R.out.2⟩
end Go.Proofs.YtdggkbpabjgdfaaGreatDoor
namespace Go.Proofs.YtdggkbpabjgdfaaGreatDoor
open Go.RowKit
set_option maxRecDepth 100000
theorem z8g (i n:Int) (hn:4611686018427387904<n) (w:World):Calls Tryz.prog 55 #[.int .u64 i,.int .u64 n] w fun e w'=>e=.returned (.tuple #[.slice none 0 0,.int .i64 30])/\w=w':=by
 go_enter Tryz.func55,Tryz.ntmps55;go_wp2;go_ret2;exact ⟨rfl,rfl⟩
theorem z7j (i n:Int) (hn:¬ 4611686018427387904<n) (hi:n<=i) (w:World):Calls Tryz.prog 55 #[.int .u64 i,.int .u64 n] w fun e w'=>e=.returned (.tuple #[.slice none 0 0,.int .i64 32])/\w=w':=by
 go_enter Tryz.func55,Tryz.ntmps55;go_wp2;go_ret2;exact ⟨rfl,rfl⟩
theorem zad (i n:Nat) (hi:i<n) (hn:n<=4611686018427387904) (w:World):Calls Tryz.prog 55 #[.int .u64 (i:Int),.int .u64 (n:Int)] w fun e w'=>
    ∃ v,e=.returned (.tuple #[v,.int .i64 0])/\w'.ownsRow w.heap.size 22 1 v (PLCS (PSP i n)).length (z04 (PLCS (PSP i n)))/\Below w.heap.size w w':=by
  have c1:=zcZ i n hi hn w;have c2:=z4E i n hi hn;have c3:=z6a n hn;have hd:¬ (4611686018427387904:Int)<(n:Int):=by omega
  have hd2:¬ (n:Int)<=(i:Int):=by omega
  have hP:=z1Q (n:=n) (by omega);have hP6:=z0C 64 n (by omega);have hR6:=(z0L hi hn).2.1;have hKl:=z2I hi hn;rw [z7a hn];have hWl:=z76 i (RISE i n);generalize WAY i (RISE i n)=A at *
  generalize z1h n=PK at *
  generalize RISE i n=R at *
  generalize KTH i n=K at *
  generalize PC n=P at *
  obtain ⟨X,hX⟩:∃ X,A ++ PK.eraseIdx K=X:=⟨_,rfl⟩
  rw [hX];obtain ⟨N,hN⟩:∃ N,X.length=N:=⟨_,rfl⟩
  rw [hN];have HA:Aside (PK.length=P/\P<=64/\R<=62/\K<P/\A.length=R):=⟨hP,hP6,hR6,hKl,hWl⟩
  have HX:Aside (z0w A PK K P=X/\X.length=N):=⟨by rw [<-hX,<-hP];exact z8L _ _ _,hN⟩
  clear hX hN;clear hP hP6 hR6 hKl hWl hi hn;go_enter Tryz.func55,Tryz.ntmps55;go_wp2_with fail
  refine c1.mono ?_;rintro e w1 ⟨v,rfl,hown,hb⟩;clear c1;have R1:Aside (w1.ownsRow w.heap.size 22 1 v R (z04 A)/\Below w.heap.size w w1):=⟨hown,hb⟩
  clear hown hb;go_wp2_with fail
  refine (c2 _).mono ?_;rintro e w2 ⟨rfl,hb⟩;replace R1:Aside (w2.ownsRow w.heap.size 22 1 v R (z04 A)/\Below w.heap.size w w2):=⟨z0m R1.out.1 hb,R1.out.2.trans (hb.mono R1.out.2.size)⟩
  clear c2 hb;go_wp2_with fail
  refine (c3 _).mono ?_;rintro e w3 ⟨vp,rfl,hrow,hb2⟩;clear c3
  have R2:Aside (w3.ownsRow w.heap.size 22 1 v (z0w A PK K 0).length (z04 (z0w A PK K 0))/\Below w.heap.size w w3/\(∀ k,vp.ownBlock=some k->v.ownBlock≠some k)/\w3.ownsRow w2.heap.size 22 1 vp P (z04 PK)):=by
    obtain ⟨a1,a2⟩:=R1.out;refine ⟨?_,a2.trans (hb2.mono a2.size),fun k hk e=>?_,hrow⟩
    · rw [z7d,HA.out.2.2.2.2]
      exact z0m a1 hb2
    · have:=(a1.lt k e).2
      have:=(hrow.lt k hk).1;omega
  obtain ⟨ap,capp,rfl,hap⟩:=z0P hrow;clear R1 hrow hb2 hap;go_wp2;go_loopg [6,11] P (fun q s6 s11 wx=>∃ j:Nat,s11=.int .i64 (j:Int)/\Aside (j+q=P/\wx.ownsRow w.heap.size 22 1 s6 (z0w A PK K j).length (z04 (z0w A PK K j))/\Below w.heap.size w wx/\(∀ k,(Value.slice ap P capp).ownBlock=some k->s6.ownBlock≠some k)/\wx.ownsRow w2.heap.size 22 1 (.slice ap P capp) P (z04 PK)))
  case atStart=>exact ⟨0,rfl,by omega,R2.out⟩
  case round=>
    obtain ⟨j,rfl,A1⟩:=hrel;clear R2;cases gk with
    | zero=>
      obtain ⟨hj,hown,hbel,hne,hrow⟩:=A1.out;obtain rfl:j=P:=by omega
      have hlt:¬ (j:Int)<(j:Int):=by omega
      have R:Aside (wr.ownsRow w.heap.size 22 1 u6 N (z04 X)/\Below w.heap.size w wr):=by
        rw [HX.out.1,HX.out.2] at hown;exact ⟨hown,hbel⟩
      clear hj hown hbel hne hrow A1 HA;go_wp2;go_ret2;exact ⟨_,rfl,R.out.1,R.out.2⟩
    | succ q=>
      obtain ⟨hj,hown,hbel,hne,hrow⟩:=A1.out;obtain ⟨a1,a2,a3,a4,a5⟩:=HA.out;have hlt:(j:Int)<(P:Int):=by omega
      obtain ⟨ap',cap2,ee,hap⟩:=z0P hrow;cases ee;obtain ⟨gp,rfl,hgp,_⟩:=hap (by omega)
      have hc:wr.cell? ⟨gp,j,none⟩=some (.int .u64 ((PK.getD j 0:Nat):Int)):=by
        have hrow':=hrow;rw [<-a1] at hrow';exact zeA hrow' j (by omega)
      have hne':=hne gp rfl;have E1:Aside (wrap64 ((j:Int)+1)=((j+1:Nat):Int)):=by show wrap64 ((j:Int)+1)=((j+1:Nat):Int);unfold wrap64;omega
      by_cases hk:j=K
      · subst hk
        have R:Aside (j+1+q=P/\wr.ownsRow w.heap.size 22 1 u6 (z0w A PK j (j+1)).length (z04 (z0w A PK j (j+1)))/\Below w.heap.size w wr/\(∀ k,(Value.slice (some ⟨gp,0,none⟩) P capp).ownBlock=some k->u6.ownBlock≠some k)/\wr.ownsRow w2.heap.size 22 1 (.slice (some ⟨gp,0,none⟩) P capp) P (z04 PK)):=⟨by omega,by rw [z7e _ _ _ (by omega)];exact hown,hbel,hne,hrow⟩
        clear hj hown hbel hne hrow a1 a2 a3 a4 a5 A1 hap hne';generalize PK.getD j 0=y at hc;have e1:=E1.out;go_wp2;go_roundg q
        case measure=>exact Nat.lt_succ_self _
        case rel=>exact ⟨j+1,by first | rfl | (rw [E1.out]),R.out⟩
      · have hk':((j:Int) != (K:Int))=true:=by simp;omega
        have hnx:=z7f A PK K j (by omega) hk;have hll:=z5l A PK K j;generalize PK.getD j 0=y at *
        have R:Aside (j+1+q=P/\wr.ownsRow w.heap.size 22 1 u6 (z0w A PK K j).length (z04 (z0w A PK K j))/\Below w.heap.size w wr/\u6.ownBlock≠some gp/\wr.ownsRow w2.heap.size 22 1 (.slice (some ⟨gp,0,none⟩) P capp) P (z04 PK)/\z0w A PK K (j+1)=z0w A PK K j ++ [y]/\(z0w A PK K j).length<=1000):=⟨by omega,hown,hbel,hne',hrow,hnx,by omega⟩
        clear hj hown hbel hne hrow a1 a2 a3 a4 a5 A1 hnx hll hap hne';go_wp2_with (at_builtin;refine z4F _ rfl (.tmp 40) (.tmp 45) rfl w.heap.size u6 _ (z04 (z0w A PK K j)) rfl (R.out.2.1.alloc _) wr.heap.size 1 (y:Int) rfl (by rw [World.cell?_alloc_at _ _ _ _ rfl];rfl) R.out.2.2.2.2.2.2 (by have:=R.out.2.2.1.size;simp;omega) ?_;intro g' cap' w4 hown hgrow hat hg)
        have R3:Aside (j+1+q=P/\w4.ownsRow w.heap.size 22 1 (.slice (some ⟨g',0,none⟩) ((z0w A PK K j).length+1) cap') (z0w A PK K (j+1)).length (z04 (z0w A PK K (j+1)))/\Below w.heap.size w w4/\(∀ k,(Value.slice (some ⟨gp,0,none⟩) P capp).ownBlock=some k->some g'≠some k)/\w4.ownsRow w2.heap.size 22 1 (.slice (some ⟨gp,0,none⟩) P capp) P (z04 PK)):=by
          obtain ⟨r1,r2,r3,r4,r5,r6,r7⟩:=R.out;have hgp:=r5.lt gp rfl;refine ⟨r1,?_,(r3.alloc r3.size _).grown hgrow (by have:=r3.size;simp;omega) (fun k e=>(r2.lt k e).1),fun k hk=>?_,(r5.alloc _).kept hgrow (.inr fun e=>r4 e.symm)⟩
          · rw [r6,z26,List.length_append]
            exact hown
          · cases hk
            exact z3T r4 (by simp;omega) hat
        clear R hown hgrow hat hg hc;have e1:=E1.out;go_wp2;go_roundg q
        case measure=>exact Nat.lt_succ_self _
        case rel=>exact ⟨j+1,by first | rfl | (rw [E1.out]),R3.out⟩
theorem zeD (i n:Nat) (w:World):Calls Tryz.prog 55 #[.int .u64 (i:Int),.int .u64 (n:Int)] w fun e w'=>
  ∃ v,e=.returned (.tuple #[v,.int .i64 (PLA i n).1])/\w'.ownsRow w.heap.size 22 1 v (PLA i n).2.length (z04 (PLA i n).2)/\Below w.heap.size w w':=by
 unfold PLA;split
 ·refine (z8g _ _ (by omega) w).mono ?_
  rintro e w' ⟨rfl,rfl⟩;exact ⟨_,rfl,z3t w,Below.refl _ _⟩
 ·split
  ·refine (z7j _ _ (by omega) (by omega) w).mono ?_
   rintro e w' ⟨rfl,rfl⟩;exact ⟨_,rfl,z3t w,Below.refl _ _⟩
  ·exact zad i n (by omega) (by omega) w
theorem z9t (m n:Int) (h:4611686018427387904<n\/n<m) (w:World):Calls Tryz.prog 62 #[.int .u64 m,.int .u64 n] w fun e w'=>e=.returned (.tuple #[.slice none 0 0,.int .i64 30])/\w=w':=by
 by_cases hd:4611686018427387904<n
 ·clear h
  go_enter Tryz.func62,Tryz.ntmps62;go_wp2;go_ret2;exact ⟨rfl,rfl⟩
 ·have hm:n<m:=by omega
  clear h;go_enter Tryz.func62,Tryz.ntmps62;go_wp2;go_ret2;exact ⟨rfl,rfl⟩
theorem zbl (a b:Nat) (hb:b<=4611686018427387904) (w:World):Calls Tryz.prog 36 #[.int .u64 (a:Int),.int .u64 (b:Int)] w fun e w'=>
  ∃ v,e=.returned v/\w'.ownsRow w.heap.size 77 2 v (SPAN a b).length (z07 (SPAN a b))/\Below w.heap.size w w':=by
 rcases Nat.lt_or_ge a b with h | h
 ·exact z7i a b h hb w
 ·refine (z5n a b (.inl h) w).mono ?_
  rintro e w' ⟨rfl,rfl⟩;refine ⟨_,rfl,?_,Below.refl _ _⟩;rw [z17 h];exact World.ownsRow_nil _ _ _ _
theorem zae (m n:Nat) (hmn:m<=n) (hn:n<=4611686018427387904) (w:World):Calls Tryz.prog 62 #[.int .u64 (m:Int),.int .u64 (n:Int)] w fun e w'=>
    ∃ v,e=.returned (.tuple #[v,.int .i64 0])/\w'.ownsRow w.heap.size 22 1 v (PLCS (PXS m n)).length (z04 (PLCS (PXS m n)))/\Below w.heap.size w w':=by
  have c1:=z6a m (by omega) w;have hd:¬ (4611686018427387904:Int)<(n:Int):=by omega
  have hd2:¬ (n:Int)<(m:Int):=by omega
  have hd3:decide (n<m)=false:=by simp;omega
  have hd4:decide ((4611686018427387904:Int)<(n:Int))=false:=by simp;omega
  have c3:=zbl m n hn;have hP:=z1Q (n:=m) (by omega);have hP6:=z0C 64 m (by omega);have hS:=z1L (a:=m) hn;have hnode:∀ j h k,(SPAN m n)[j]?=some (h,k)->Node h k:=fun j h k e=>(z0T hn hmn).node e;rw [z7b hmn hn];generalize z1h m=PK at *
  generalize PC m=P at *
  generalize SPAN m n=S at *
  obtain ⟨L,hL⟩:∃ L,S.length=L:=⟨_,rfl⟩
  rw [hL] at c3;obtain ⟨X,hX⟩:∃ X,PK ++ PLCS S=X:=⟨_,rfl⟩
  rw [hX];obtain ⟨N,hN⟩:∃ N,X.length=N:=⟨_,rfl⟩
  rw [hN];have HX:Aside (z0l PK S L=X/\X.length=N):=⟨by rw [<-hX,<-hL];simp [z0l],hN⟩
  clear hX hN;have HA:Aside (PK.length=P/\P<=64/\S.length=L/\L<=124/\∀ j h k,S[j]?=some (h,k)->Node h k):=⟨hP,hP6,hL,by omega,hnode⟩
  clear hP hP6 hS hL hnode hmn hn;go_enter Tryz.func62,Tryz.ntmps62;go_wp2_with fail
  refine c1.mono ?_;rintro e w1 ⟨v,rfl,hown,hb⟩;clear c1;have R1:Aside (w1.ownsRow w.heap.size 22 1 v P (z04 PK)/\Below w.heap.size w w1):=⟨hown,hb⟩
  clear hown hb;go_wp2_with fail
  refine (c3 _).mono ?_;rintro e w2 ⟨vs,rfl,hrow,hb2⟩;clear c3;obtain ⟨ga,capp,rfl,hsp⟩:=z2A HA.out.2.2.1 hrow
  have R2:Aside (w2.ownsRow w.heap.size 22 1 v (z0l PK S 0).length (z04 (z0l PK S 0))/\Below w.heap.size w w2/\(∀ k,(Value.slice ga L capp).ownBlock=some k->v.ownBlock≠some k)/\w2.ownsRow w1.heap.size 77 2 (.slice ga L capp) L (z07 S)):=by
    obtain ⟨a1,a2⟩:=R1.out;refine ⟨?_,a2.trans (hb2.mono a2.size),fun k hk e=>?_,hrow⟩
    · have:(z0l PK S 0)=PK:=by simp [z0l,PLCS]
      rw [this,HA.out.1];exact z0m a1 hb2
    · have:=(hrow.lt k hk).1
      have:=(a1.lt k e).2;omega
  clear R1 hrow hb2 hsp;go_wp2;go_loopg [6,8] L (fun q s6 s8 wx=>∃ j:Nat,s8=.int .i64 (j:Int)/\Aside (j+q=L/\wx.ownsRow w.heap.size 22 1 s6 (z0l PK S j).length (z04 (z0l PK S j))/\Below w.heap.size w wx/\(∀ k,(Value.slice ga L capp).ownBlock=some k->s6.ownBlock≠some k)/\wx.ownsRow w1.heap.size 77 2 (.slice ga L capp) L (z07 S)))
  case atStart=>exact ⟨0,rfl,by omega,R2.out⟩
  case round=>
    obtain ⟨j,rfl,A1⟩:=hrel;clear R2;cases gk with
    | zero=>
      obtain ⟨hj,hown,hbel,hne,hrow⟩:=A1.out;obtain rfl:j=L:=by omega
      have hlt:¬ (j:Int)<(j:Int):=by omega
      have R:Aside (wr.ownsRow w.heap.size 22 1 u6 N (z04 X)/\Below w.heap.size w wr):=by
        rw [HX.out.1,HX.out.2] at hown;exact ⟨hown,hbel⟩
      clear hj hown hbel hne hrow A1 HA;go_wp2;go_ret2;exact ⟨_,rfl,R.out.1,R.out.2⟩
    | succ q=>
      obtain ⟨hj,hown,hbel,hne,hrow⟩:=A1.out;obtain ⟨a1,a2,a3,a4,a5⟩:=HA.out;have hlt:(j:Int)<(L:Int):=by omega
      obtain ⟨ga',cap2,ee,hsp⟩:=z2A a3 hrow;cases ee;obtain ⟨gs,rfl,hgs,hcs⟩:=hsp (by omega);obtain ⟨h,k,eh⟩:=at_lt (l:=S) (i:=j) (by omega);obtain ⟨hy0,hy1⟩:=hcs j h k eh;have hN:=a5 j h k eh;have cp:=fun w=>z2o h k hN w
      have hnx:z0l PK S (j+1)=z0l PK S j ++ [PLC h k]:=by
        unfold z0l;rw [z8N eh,List.append_assoc]
      have hll:(z0l PK S j).length<=188:=by
        unfold z0l;rw [List.length_append,z0u,List.length_take];omega
      generalize PLC h k=y at *
      have hne':=hne gs rfl;have R:Aside (j+1+q=L/\wr.ownsRow w.heap.size 22 1 u6 (z0l PK S j).length (z04 (z0l PK S j))/\Below w.heap.size w wr/\u6.ownBlock≠some gs/\wr.ownsRow w1.heap.size 77 2 (.slice (some ⟨gs,0,none⟩) L capp) L (z07 S)/\z0l PK S (j+1)=z0l PK S j ++ [y]/\(z0l PK S j).length<=1000):=⟨by omega,hown,hbel,hne',hrow,hnx,by omega⟩
      have E1:Aside (wrap64 ((j:Int)+1)=((j+1:Nat):Int)):=by show wrap64 ((j:Int)+1)=((j+1:Nat):Int);unfold wrap64;omega
      clear hj hown hbel hne hrow a1 a2 a3 a4 a5 A1 hnx hll hne' hN eh hcs hgs hsp;go_wp2_with fail
      refine (cp _).mono ?_;rintro e w3 ⟨rfl,hb3⟩;clear cp hy0 hy1
      have R2:Aside (w3.ownsRow w.heap.size 22 1 u6 (z0l PK S j).length (z04 (z0l PK S j))/\Below w.heap.size w w3/\w3.ownsRow w1.heap.size 77 2 (.slice (some ⟨gs,0,none⟩) L capp) L (z07 S)):=by
        obtain ⟨r1,r2,r3,r4,r5,r6,r7⟩:=R.out;exact ⟨z0m r2 hb3,r3.trans (hb3.mono r3.size),z0m r5 hb3⟩
      clear hb3;go_wp2_with (at_builtin;refine z4F _ rfl (.tmp 37) (.tmp 39) rfl w.heap.size u6 _ (z04 (z0l PK S j)) rfl (R2.out.1.alloc _) w3.heap.size 1 (y:Int) rfl (by rw [World.cell?_alloc_at _ _ _ _ rfl];rfl) R.out.2.2.2.2.2.2 (by have:=R2.out.2.1.size;simp;omega) ?_;intro g' cap' w4 hown hgrow hat hg)
      have R3:Aside (j+1+q=L/\w4.ownsRow w.heap.size 22 1 (.slice (some ⟨g',0,none⟩) ((z0l PK S j).length+1) cap') (z0l PK S (j+1)).length (z04 (z0l PK S (j+1)))/\Below w.heap.size w w4/\(∀ k,(Value.slice (some ⟨gs,0,none⟩) L capp).ownBlock=some k->some g'≠some k)/\w4.ownsRow w1.heap.size 77 2 (.slice (some ⟨gs,0,none⟩) L capp) L (z07 S)):=by
        obtain ⟨r1,_,_,r4,_,r6,r7⟩:=R.out;obtain ⟨r2,r3,r5⟩:=R2.out;have hgp:=r5.lt gs rfl;refine ⟨r1,?_,(r3.alloc r3.size _).grown hgrow (by have:=r3.size;simp;omega) (fun k e=>(r2.lt k e).1),fun k hk=>?_,(r5.alloc _).kept hgrow (.inr fun e=>r4 e.symm)⟩
        · rw [r6,z26,List.length_append]
          exact hown
        · cases hk
          exact z3T r4 (by simp;omega) hat
      clear R R2 hown hgrow hat hg;have e1:=E1.out;go_wp2;go_roundg q
      case measure=>exact Nat.lt_succ_self _
      case rel=>exact ⟨j+1,by first | rfl | (rw [E1.out]),R3.out⟩
theorem zeE (m n:Nat) (w:World):Calls Tryz.prog 62 #[.int .u64 (m:Int),.int .u64 (n:Int)] w fun e w'=>
  ∃ v,e=.returned (.tuple #[v,.int .i64 (PPA m n).1])/\w'.ownsRow w.heap.size 22 1 v (PPA m n).2.length (z04 (PPA m n).2)/\Below w.heap.size w w':=by
 unfold PPA;split
 ·refine (z9t _ _ (by omega) w).mono ?_
  rintro e w' ⟨rfl,rfl⟩;exact ⟨_,rfl,z3t w,Below.refl _ _⟩
 ·exact zae m n (by omega) (by omega) w
theorem zd1 {w w':World} {r:Option Nat} (h:w.grownBy w' r):w.heap.size<=w'.heap.size:=by
 obtain ⟨_,_,_,hs,_⟩:=h;exact hs
theorem z4G {w:World} {B n g m c:Nat} {xs:List Value} (h:w.ownsRow B 22 1 (.slice (some ⟨g,0,none⟩) m c) n xs):m=n:=by
 rcases h.2 with ⟨e,_⟩ | ⟨_,_,_,e,_⟩
 ·simp at e
 ·simp at e
  omega
theorem z4H {ops:Array Oper} {o:Oper} {a:Act} {w w':World} {K:Act->World->Prop} {Q:Exit->Act->World->Prop} {E:Prop} {v:Value} (hg:o.guard=none)
  (hrun:(execOp a.eval o).run Tryz.prog w=.ok (.value v) w') (h:K (a.put o.dst v) w'):if Region.wanted o (yielded ops a.tmps)=true then Oper.wp Tryz.prog o a w K Q else E:=by
 have hw:Region.wanted o (yielded ops a.tmps)=true:=by simp [Region.wanted,hg]
 rw [if_pos hw];unfold Oper.wp;rw [hrun];exact h
theorem z1W {ops:Array Oper} {o:Oper} {a:Act} {w w':World} {K:Act->World->Prop} {Q:Exit->Act->World->Prop} {E:Prop} (hg:o.guard=none)
  (hrun:(execOp a.eval o).run Tryz.prog w=.ok .skip w') (h:K (a.put o.dst undef) w'):if Region.wanted o (yielded ops a.tmps)=true then Oper.wp Tryz.prog o a w K Q else E:=by
 have hw:Region.wanted o (yielded ops a.tmps)=true:=by simp [Region.wanted,hg]
 rw [if_pos hw];unfold Oper.wp;rw [hrun];exact h
theorem z6I {s:Sem Unit} {w w':World} (h:s.run Tryz.prog w=.ok () w'):(do s;pure Next.skip:Sem Next).run Tryz.prog w=.ok .skip w':=by
 simp [h]
theorem z2i {ops:Array Oper} {Q:Exit->Act->World->Prop} {md:Region.Mode} {S:World->Prop} {fuel:Nat} {listed:Array Bool} {a:Act} {w:World} {o:Oper} (i:Nat) (hr:Region.ready md ops listed=[i]) (ho:ops[i]?=some o)
  (h:∀ K':Act->World->Prop,Shut (∀ a w,S w->(S w->wpAnyH Tryz.prog md ops Q S fuel (listed.setIfInBounds i true) a w)->K' a w)->if Region.wanted o (yielded ops a.tmps)=true then Oper.wp Tryz.prog o a w K' Q else K' (a.put o.dst undef) w):wpAnyH Tryz.prog md ops Q S (fuel+1) listed a w:=
 wpAnyH_ready hr (by simp) (AllReadyH.cons ho h AllReadyH.nil)
theorem z3U {s:Sem Value} {w w':World} {v:Value} (h:s.run Tryz.prog w=.ok v w'):(do pure (Next.value (<-s)):Sem Next).run Tryz.prog w=.ok (.value v) w':=by
 simp [h,Result.andThen]
end Go.Proofs.YtdggkbpabjgdfaaGreatDoor
