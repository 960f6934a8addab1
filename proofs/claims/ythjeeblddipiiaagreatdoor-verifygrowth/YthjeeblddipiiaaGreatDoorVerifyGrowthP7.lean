/- Texts of VerifyGrowth, one behind the other: ProofPlaces, ProofBytes, ProofEncode, CutRefSpan, ProofRefPlaces, ProofLists, RegionSteps. -/
import Derived.Deep.MidRow
import Derived.Test.YthjeeblddipiiaaGreatDoorProg
import Derived.WalkKit
import Derived.WalkLawsBesides
import Derived.Deep.RegionHeld3
import Derived.Deep.CutRange
import Derived.Test.YthjeeblddipiiaaGreatDoorVerifyGrowthP5
import Derived.Test.YthjeeblddipiiaaGreatDoorVerifyGrowthP6
namespace Go.Proofs.YthjeeblddipiiaaGreatDoor
open Go.RowKit
def z0w (PK:List Nat) (S:List (Nat × Nat)) (j:Nat):List Nat:=PK ++ PLCS (S.take j)
theorem z93 (i n:Int) (hn:4611686018427387904<n) (w:World):Calls Tryz.prog 24 #[.int .u64 i,.int .u64 n] w fun e w'=>e=.returned (.tuple #[.slice none 0 0,.int .i64 30])∧w=w':=by
  go_enter Tryz.func24,Tryz.ntmps24
  go_wp2
  go_ret2
  exact ⟨rfl,rfl⟩
theorem z80 (i n:Int) (hn:¬ 4611686018427387904<n) (hi:¬ i<n) (w:World):Calls Tryz.prog 24 #[.int .u64 i,.int .u64 n] w fun e w'=>e=.returned (.tuple #[.slice none 0 0,.int .i64 32])∧w=w':=by
  have c:=ze4 i n (by omega)
  clear hi
  go_enter Tryz.func24,Tryz.ntmps24
  go_wp2_with fail
  refine (c _).mono ?_
  rintro e w' ⟨rfl,rfl⟩
  clear c
  go_wp2
  go_ret2
  exact ⟨rfl,rfl⟩
theorem z6V {w:World} {v:Value} {g gp:Nat} (hne:v.ownBlock≠some gp) (hgp:gp<w.heap.size) (hat:v.ownBlock=some g∨g=w.heap.size):some g≠some gp:=by
  intro e
  have e:g=gp:=by simpa using e
  subst e
  rcases hat with h | h
  · exact hne h
  · omega
def z0x (A P:List Nat) (K j:Nat):List Nat:=A ++ (P.take j).eraseIdx K
theorem zaK (A P:List Nat) (K:Nat):z0x A P K 0=A:=by simp [z0x]
theorem zcn (A P:List Nat) (K:Nat):z0x A P K P.length=A ++ P.eraseIdx K:=by simp [z0x]
theorem z6W {P:List Nat} {j:Nat} (hj:j<P.length):P.take (j+1)=P.take j ++ [P.getD j 0]:=by
  rw [List.take_add_one,List.getD,List.getElem?_eq_getElem hj]
  rfl
theorem zaL (A P:List Nat) (K:Nat) (hK:K<P.length):z0x A P K (K+1)=z0x A P K K:=by
  unfold z0x
  rw [z6W hK,z5x,if_pos (by rw [List.length_take];omega)]
theorem zaM (A P:List Nat) (K j:Nat) (hj:j<P.length) (hK:j≠K):z0x A P K (j+1)=z0x A P K j ++ [P.getD j 0]:=by
  unfold z0x
  rw [z6W hj,z5x,if_neg (by rw [List.length_take];omega),List.append_assoc]
theorem z81 (A P:List Nat) (K j:Nat):(z0x A P K j).length≤A.length+P.length:=by
  unfold z0x
  rw [List.length_append]
  have h1:=List.length_eraseIdx_le (P.take j) K
  have h2:=List.length_take_le' j P
  omega
set_option maxHeartbeats 1000000 in
theorem zco (i n:Nat) (hi:i<n) (hn:n≤4611686018427387904) (w:World) (hT:Tabled w) (h0:0<w.heap.size):Calls Tryz.prog 24 #[.int .u64 (i:Int),.int .u64 (n:Int)] w fun e w'=>
    ∃ v,e=.returned (.tuple #[v,.int .i64 0])∧w'.ownsRow w.heap.size 23 1 v (PLCS (PSP i n)).length (UCELLS (PLCS (PSP i n)))∧Below w.heap.size w w':=by
  have c1:=z9M i n hi hn w
  have c2:=zfq i n hi hn
  have hd:¬ (4611686018427387904:Int)<(n:Int):=by omega
  have C3:Aside (∀ W,Below w.heap.size w W→Calls Tryz.prog 48 #[.int .u64 (n:Int)] W fun e w'=>∃ g cap,e=.returned (.slice (some ⟨g,0,none⟩) (PC n) cap)∧w'.ownsRow W.heap.size 23 1 (.slice (some ⟨g,0,none⟩) (PC n) cap) (PC n) (UCELLS (z1l n))∧Below W.heap.size W w'):=
    fun W h=>z3Q n hn W (hT.below h0 h) (Nat.lt_of_lt_of_le h0 h.size)
  have hP:=z2f (n:=n) (by omega)
  have hP6:=z1c 64 n (by omega)
  have hR6:=(z1m hi hn).2.1
  have hKl:=z7N hi hn
  rw [zaG hn]
  have hWl:=zaB i (RISE i n)
  generalize WAY i (RISE i n)=A at *
  generalize z1l n=PK at *
  generalize RISE i n=R at *
  generalize KTH i n=K at *
  generalize PC n=P at *
  obtain ⟨X,hX⟩:∃ X,A ++ PK.eraseIdx K=X:=⟨_,rfl⟩
  rw [hX]
  obtain ⟨N,hN⟩:∃ N,X.length=N:=⟨_,rfl⟩
  rw [hN]
  have HA:Aside (PK.length=P∧P≤64∧R≤62∧K<P∧A.length=R):=⟨hP,hP6,hR6,hKl,hWl⟩
  have HX:Aside (z0x A PK K P=X∧X.length=N):=⟨by rw [← hX,← hP];exact zcn _ _ _,hN⟩
  clear hX hN
  clear hP hP6 hR6 hKl hWl hT h0 hi hn
  go_enter Tryz.func24,Tryz.ntmps24
  go_wp2_with fail
  refine c1.mono ?_
  rintro e w1 ⟨g,cap,rfl,hown,hg,hb⟩
  clear c1
  have R1:Aside (w1.ownsRow w.heap.size 23 1 (.slice (some ⟨g,0,none⟩) R cap) R (UCELLS A)∧Below w.heap.size w w1∧g<w1.heap.size):=⟨hown,hb,hg⟩
  clear hown hg hb
  go_wp2_with fail
  refine (c2 _).mono ?_
  rintro e w' ⟨rfl,rfl⟩
  clear c2
  go_wp2_with fail
  refine (C3.out _ R1.out.2.1).mono ?_
  rintro e w2 ⟨gp,capp,rfl,hrow,hb2⟩
  have R2:Aside (w2.ownsRow w.heap.size 23 1 (.slice (some ⟨g,0,none⟩) R cap) (z0x A PK K 0).length (UCELLS (z0x A PK K 0))∧Below w.heap.size w w2∧some g≠some gp∧w2.ownsRow w1.heap.size 23 1 (.slice (some ⟨gp,0,none⟩) P capp) P (UCELLS PK)):=by
    obtain ⟨a1,a2,a3⟩:=R1.out
    have hgp:=hrow.lt gp rfl
    refine ⟨?_,a2.trans (hb2.mono a2.size),fun e=>?_,hrow⟩
    · rw [zaK,HA.out.2.2.2.2]
      exact z0c a1 hb2
    · have e:g=gp:=by simpa using e
      omega
  clear R1 hrow hb2 C3
  go_wp2
  go_loopg [6,31] P (fun q s6 s31 wx=>∃ j:Nat,s31=.int .i64 (j:Int)∧Aside (j+q=P∧wx.ownsRow w.heap.size 23 1 s6 (z0x A PK K j).length (UCELLS (z0x A PK K j))∧Below w.heap.size w wx∧s6.ownBlock≠some gp∧wx.ownsRow w1.heap.size 23 1 (.slice (some ⟨gp,0,none⟩) P capp) P (UCELLS PK)))
  case atStart=>exact ⟨0,rfl,by omega,R2.out.1,R2.out.2.1,R2.out.2.2.1,R2.out.2.2.2⟩
  case round=>
    obtain ⟨j,rfl,A1⟩:=hrel
    clear R2
    cases gk with
    | zero=>
      obtain ⟨hj,hown,hbel,hne,hrow⟩:=A1.out
      obtain rfl:j=P:=by omega
      have hlt:¬ (j:Int)<(j:Int):=by omega
      have R:Aside (wr.ownsRow w.heap.size 23 1 u6 N (UCELLS X)∧Below w.heap.size w wr):=by
        rw [HX.out.1,HX.out.2] at hown
        exact ⟨hown,hbel⟩
      clear hj hown hbel hne hrow A1 HA
      go_wp2
      go_ret2
      exact ⟨_,rfl,R.out.1,R.out.2⟩
    | succ q=>
      obtain ⟨hj,hown,hbel,hne,hrow⟩:=A1.out
      obtain ⟨a1,a2,a3,a4,a5⟩:=HA.out
      have hlt:(j:Int)<(P:Int):=by omega
      have hc:wr.cell? ⟨gp,j,none⟩=some (.int .u64 ((PK.getD j 0:Nat):Int)):=by
        have hrow':=hrow
        rw [← a1] at hrow'
        exact zcl hrow' j (by omega)
      have e1:wrap64 ((j:Int)+1)=((j+1:Nat):Int):=by unfold wrap64;omega
      by_cases hk:j=K
      · subst hk
        have R:Aside (j+1+q=P∧wr.ownsRow w.heap.size 23 1 u6 (z0x A PK j (j+1)).length (UCELLS (z0x A PK j (j+1)))∧Below w.heap.size w wr∧u6.ownBlock≠some gp∧wr.ownsRow w1.heap.size 23 1 (.slice (some ⟨gp,0,none⟩) P capp) P (UCELLS PK)):=⟨by omega,by rw [zaL _ _ _ (by omega)];exact hown,hbel,hne,hrow⟩
        clear hj hown hbel hne hrow a1 a2 a3 a4 a5 A1
        generalize PK.getD j 0=y at hc
        go_wp2
        go_roundg q
        case measure=>omega
        case rel=>exact ⟨j+1,by first | rfl | (rw [e1]),R.out⟩
      · have hk':((j:Int) != (K:Int))=true:=by simp;omega
        have hnx:=zaM A PK K j (by omega) hk
        have hll:=z81 A PK K j
        generalize PK.getD j 0=y at *
        have R:Aside (j+1+q=P∧wr.ownsRow w.heap.size 23 1 u6 (z0x A PK K j).length (UCELLS (z0x A PK K j))∧Below w.heap.size w wr∧u6.ownBlock≠some gp∧wr.ownsRow w1.heap.size 23 1 (.slice (some ⟨gp,0,none⟩) P capp) P (UCELLS PK)∧z0x A PK K (j+1)=z0x A PK K j ++ [y]∧(z0x A PK K j).length≤1000):=⟨by omega,hown,hbel,hne,hrow,hnx,by omega⟩
        clear hj hown hbel hne hrow a1 a2 a3 a4 a5 A1 hnx hll
        go_wp2_with (at_builtin;refine z7Z _ rfl (.tmp 39) (.tmp 41) rfl w.heap.size u6 _ (UCELLS (z0x A PK K j)) rfl (R.out.2.1.alloc _) wr.heap.size 1 (y:Int) rfl (by rw [World.cell?_alloc_at _ _ _ _ rfl];rfl) R.out.2.2.2.2.2.2 (by have:=R.out.2.2.1.size;simp;omega) ?_;intro g' cap' w3 hown hgrow hat hg)
        have R3:Aside (j+1+q=P∧w3.ownsRow w.heap.size 23 1 (.slice (some ⟨g',0,none⟩) ((z0x A PK K j).length+1) cap') (z0x A PK K (j+1)).length (UCELLS (z0x A PK K (j+1)))∧Below w.heap.size w w3∧some g'≠some gp∧w3.ownsRow w1.heap.size 23 1 (.slice (some ⟨gp,0,none⟩) P capp) P (UCELLS PK)):=by
          obtain ⟨r1,r2,r3,r4,r5,r6,r7⟩:=R.out
          have hgp:=r5.lt gp rfl
          refine ⟨r1,?_,(r3.alloc r3.size _).grown hgrow (by have:=r3.size;simp;omega) (fun k e=>(r2.lt k e).1),z6V r4 (by simp;omega) hat,(r5.alloc _).kept hgrow (.inr fun e=>r4 e.symm)⟩
          rw [r6,z2t,List.length_append]
          exact hown
        clear R hown hgrow hat hg hc
        go_wp2
        go_roundg q
        case measure=>omega
        case rel=>exact ⟨j+1,by first | rfl | (rw [e1]),R3.out⟩
theorem z5f (m n:Int) (h:4611686018427387904<n∨n<m) (w:World):Calls Tryz.prog 39 #[.int .u64 m,.int .u64 n] w fun e w'=>e=.returned (.tuple #[.slice none 0 0,.int .i64 30])∧w=w':=by
  by_cases hd:4611686018427387904<n
  · clear h
    go_enter Tryz.func39,Tryz.ntmps39
    go_wp2
    go_ret2
    exact ⟨rfl,rfl⟩
  · have hm:n<m:=by omega
    clear h
    go_enter Tryz.func39,Tryz.ntmps39
    go_wp2
    go_ret2
    exact ⟨rfl,rfl⟩
theorem zcp {l:List (Nat × Nat)} {j h k:Nat} (e:l[j]?=some (h,k)):PLCS (l.take (j+1))=PLCS (l.take j) ++ [PLC h k]:=by
  rw [(z4D e).2,z3u]
  rfl
set_option maxHeartbeats 1000000 in
theorem z5y (m n:Nat) (hmn:m≤n) (hn:n≤4611686018427387904) (w:World) (hT:Tabled w) (h0:0<w.heap.size):Calls Tryz.prog 39 #[.int .u64 (m:Int),.int .u64 (n:Int)] w fun e w'=>
    ∃ v,e=.returned (.tuple #[v,.int .i64 0])∧w'.ownsRow w.heap.size 23 1 v (PLCS (PXS m n)).length (UCELLS (PLCS (PXS m n)))∧Below w.heap.size w w':=by
  have c1:=z3Q m (by omega) w hT h0
  have hd:¬ (4611686018427387904:Int)<(n:Int):=by omega
  have hd2:¬ (n:Int)<(m:Int):=by omega
  have C3:Aside (∀ W,Below w.heap.size w W→Calls Tryz.prog 65 #[.int .u64 (m:Int),.int .u64 (n:Int)] W fun e w'=>∃ v,e=.returned v∧w'.ownsRow W.heap.size 81 2 v (SPAN m n).length (z0i (SPAN m n))∧Below W.heap.size W w'):=
    fun W h=>zfu m n (by omega) hn W (hT.below h0 h) (Nat.lt_of_lt_of_le h0 h.size)
  have hP:=z2f (n:=m) (by omega)
  have hP6:=z1c 64 m (by omega)
  have hS:=z3t (a:=m) hn
  have hnode:∀ j h k,(SPAN m n)[j]?=some (h,k)→Node h k:=fun j h k e=>(z1d hn hmn).node e
  rw [zaH hmn hn]
  generalize z1l m=PK at *
  generalize PC m=P at *
  generalize SPAN m n=S at *
  obtain ⟨L,hL⟩:∃ L,S.length=L:=⟨_,rfl⟩
  rw [hL] at C3
  obtain ⟨X,hX⟩:∃ X,PK ++ PLCS S=X:=⟨_,rfl⟩
  rw [hX]
  obtain ⟨N,hN⟩:∃ N,X.length=N:=⟨_,rfl⟩
  rw [hN]
  have HX:Aside (z0w PK S L=X∧X.length=N):=⟨by rw [← hX,← hL];simp [z0w],hN⟩
  clear hX hN
  have HA:Aside (PK.length=P∧P≤64∧S.length=L∧L≤124∧∀ j h k,S[j]?=some (h,k)→Node h k):=⟨hP,hP6,hL,by omega,hnode⟩
  clear hP hP6 hS hL hnode hT h0 hmn hn
  go_enter Tryz.func39,Tryz.ntmps39
  go_wp2_with fail
  refine c1.mono ?_
  rintro e w1 ⟨g,cap,rfl,hown,hb⟩
  clear c1
  have R1:Aside (w1.ownsRow w.heap.size 23 1 (.slice (some ⟨g,0,none⟩) P cap) P (UCELLS PK)∧Below w.heap.size w w1∧g<w1.heap.size):=⟨hown,hb,(hown.lt g rfl).2⟩
  clear hown hb
  go_wp2_with fail
  refine (C3.out _ R1.out.2.1).mono ?_
  rintro e w2 ⟨v,rfl,hrow,hb2⟩
  obtain ⟨ga,capp,rfl,hsp⟩:=z6R HA.out.2.2.1 hrow
  have R2:Aside (w2.ownsRow w.heap.size 23 1 (.slice (some ⟨g,0,none⟩) P cap) (z0w PK S 0).length (UCELLS (z0w PK S 0))∧Below w.heap.size w w2∧(∀ k,(Value.slice ga L capp).ownBlock=some k→some g≠some k)∧w2.ownsRow w1.heap.size 81 2 (.slice ga L capp) L (z0i S)):=by
    obtain ⟨a1,a2,a3⟩:=R1.out
    refine ⟨?_,a2.trans (hb2.mono a2.size),fun k hk e=>?_,hrow⟩
    · have:(z0w PK S 0)=PK:=by simp [z0w,PLCS]
      rw [this,HA.out.1]
      exact z0c a1 hb2
    · have e:g=k:=by simpa using e
      have:=(hrow.lt k hk).1
      omega
  clear R1 hrow hb2 C3 hsp
  go_wp2
  go_loopg [6,24] L (fun q s6 s24 wx=>∃ j:Nat,s24=.int .i64 (j:Int)∧Aside (j+q=L∧wx.ownsRow w.heap.size 23 1 s6 (z0w PK S j).length (UCELLS (z0w PK S j))∧Below w.heap.size w wx∧(∀ k,(Value.slice ga L capp).ownBlock=some k→s6.ownBlock≠some k)∧wx.ownsRow w1.heap.size 81 2 (.slice ga L capp) L (z0i S)))
  case atStart=>exact ⟨0,rfl,by omega,R2.out⟩
  case round=>
    obtain ⟨j,rfl,A1⟩:=hrel
    clear R2
    cases gk with
    | zero=>
      obtain ⟨hj,hown,hbel,hne,hrow⟩:=A1.out
      obtain rfl:j=L:=by omega
      have hlt:¬ (j:Int)<(j:Int):=by omega
      have R:Aside (wr.ownsRow w.heap.size 23 1 u6 N (UCELLS X)∧Below w.heap.size w wr):=by
        rw [HX.out.1,HX.out.2] at hown
        exact ⟨hown,hbel⟩
      clear hj hown hbel hne hrow A1 HA
      go_wp2
      go_ret2
      exact ⟨_,rfl,R.out.1,R.out.2⟩
    | succ q=>
      obtain ⟨hj,hown,hbel,hne,hrow⟩:=A1.out
      obtain ⟨a1,a2,a3,a4,a5⟩:=HA.out
      have hlt:(j:Int)<(L:Int):=by omega
      obtain ⟨ga',cap2,ee,hsp⟩:=z6R a3 hrow
      cases ee
      obtain ⟨gs,rfl,hgs,hcs⟩:=hsp (by omega)
      obtain ⟨h,k,eh⟩:=at_lt (l:=S) (i:=j) (by omega)
      obtain ⟨hy0,hy1⟩:=hcs j h k eh
      have hN:=a5 j h k eh
      have cp:=fun w=>zdY h k hN w
      have hnx:z0w PK S (j+1)=z0w PK S j ++ [PLC h k]:=by
        unfold z0w
        rw [zcp eh,List.append_assoc]
      have hll:(z0w PK S j).length≤188:=by
        unfold z0w
        rw [List.length_append,z0o,List.length_take]
        omega
      generalize PLC h k=y at *
      have e1:wrap64 ((j:Int)+1)=((j+1:Nat):Int):=by unfold wrap64;omega
      have hne':=hne gs rfl
      have R:Aside (j+1+q=L∧wr.ownsRow w.heap.size 23 1 u6 (z0w PK S j).length (UCELLS (z0w PK S j))∧Below w.heap.size w wr∧u6.ownBlock≠some gs∧wr.ownsRow w1.heap.size 81 2 (.slice (some ⟨gs,0,none⟩) L capp) L (z0i S)∧z0w PK S (j+1)=z0w PK S j ++ [y]∧(z0w PK S j).length≤1000):=⟨by omega,hown,hbel,hne',hrow,hnx,by omega⟩
      clear hj hown hbel hne hrow a1 a2 a3 a4 a5 A1 hnx hll hne' hN eh hcs hgs hsp
      go_wp2_with fail
      refine (cp _).mono ?_
      rintro e w3 ⟨rfl,hb3⟩
      clear cp hy0 hy1
      have R2:Aside (w3.ownsRow w.heap.size 23 1 u6 (z0w PK S j).length (UCELLS (z0w PK S j))∧Below w.heap.size w w3∧w3.ownsRow w1.heap.size 81 2 (.slice (some ⟨gs,0,none⟩) L capp) L (z0i S)):=by
        obtain ⟨r1,r2,r3,r4,r5,r6,r7⟩:=R.out
        exact ⟨z0c (r2.alloc _) hb3,(r3.alloc r3.size _).trans (hb3.mono (by have:=r3.size;simp;omega)),z0c (r5.alloc _) hb3⟩
      clear hb3
      go_wp2_with (at_builtin;refine z7Z _ rfl (.tmp 33) (.tmp 35) rfl w.heap.size u6 _ (UCELLS (z0w PK S j)) rfl (R2.out.1.alloc _) w3.heap.size 1 (y:Int) rfl (by rw [World.cell?_alloc_at _ _ _ _ rfl];rfl) R.out.2.2.2.2.2.2 (by have:=R2.out.2.1.size;simp;omega) ?_;intro g' cap' w4 hown hgrow hat hg)
      have R3:Aside (j+1+q=L∧w4.ownsRow w.heap.size 23 1 (.slice (some ⟨g',0,none⟩) ((z0w PK S j).length+1) cap') (z0w PK S (j+1)).length (UCELLS (z0w PK S (j+1)))∧Below w.heap.size w w4∧(∀ k,(Value.slice (some ⟨gs,0,none⟩) L capp).ownBlock=some k→some g'≠some k)∧w4.ownsRow w1.heap.size 81 2 (.slice (some ⟨gs,0,none⟩) L capp) L (z0i S)):=by
        obtain ⟨r1,_,_,r4,_,r6,r7⟩:=R.out
        obtain ⟨r2,r3,r5⟩:=R2.out
        have hgp:=r5.lt gs rfl
        refine ⟨r1,?_,(r3.alloc r3.size _).grown hgrow (by have:=r3.size;simp;omega) (fun k e=>(r2.lt k e).1),fun k hk=>?_,(r5.alloc _).kept hgrow (.inr fun e=>r4 e.symm)⟩
        · rw [r6,z2t,List.length_append]
          exact hown
        · cases hk
          exact z6V r4 (by simp;omega) hat
      clear R R2 hown hgrow hat hg
      go_wp2
      go_roundg q
      case measure=>omega
      case rel=>exact ⟨j+1,by first | rfl | (rw [e1]),R3.out⟩
end Go.Proofs.YthjeeblddipiiaaGreatDoor

namespace Go.Proofs.YthjeeblddipiiaaGreatDoor
open Go.RowKit
set_option maxRecDepth 100000
def Flat (w:World) (a:Option Addr) (n:Nat) (l:List Int):Prop:=
  l.length=32*n∧(0<n→∃ b o,a=some ⟨b,o,none⟩∧b<w.heap.size∧∀ j,j<32*n→w.cell? ⟨b,o+j,none⟩=some (.int .u8 (l.getD j 0)))∧∀ x∈l,0≤x∧x≤255
theorem Flat.below {w w':World} {a:Option Addr} {n:Nat} {l:List Int} (h:Flat w a n l) (hb:Below w.heap.size w w'):Flat w' a n l:=
  ⟨h.1,fun hn=>by
    obtain ⟨b,o,e,hl,hc⟩:=h.2.1 hn
    exact ⟨b,o,e,Nat.lt_of_lt_of_le hl hb.size,fun i hi=>(hb.cell (by exact hl)).trans (hc i hi)⟩,h.2.2⟩
def HSH (l:List Int) (i:Nat):List Int:=(l.drop (32*i)).take 32
theorem z0S {l:List Int} {n i:Nat} (hl:l.length=32*n) (hi:i<n):(HSH l i).length=32:=by
  unfold HSH
  rw [List.length_take,List.length_drop]
  omega
theorem zcq {l:List Int} {i j:Nat} (hj:j<32):(HSH l i).getD j 0=l.getD (32*i+j) 0:=by
  unfold HSH
  rw [List.getD_eq_getElem?_getD,List.getElem?_take,if_pos hj,List.getElem?_drop,List.getD_eq_getElem?_getD]
theorem z9U {l:List Int} {i:Nat} {x:Int} (h:x∈HSH l i):x∈l:=List.mem_of_mem_drop (List.mem_of_mem_take h)
theorem z34 (l:List Int) (i:Nat):l.take (32*(i+1))=l.take (32*i) ++ HSH l i:=by
  unfold HSH
  rw [show 32*(i+1)=32*i+32 by omega,List.take_add]
theorem z4R:(Tryz.prog.info? 32).map (·.size)=some 32:=by kernel_rfl
theorem z0k {h:List Int} (hl:h.length=32):(Tryz.prog.info? 32).map (·.size)=some (z00 h).length:=by
  rw [z4R,show (z00 h).length=32 by simp [z00,hl]]
theorem z08 {h:List Int} (hl:h.length=32):(Tryz.prog.info? 32).map (·.size)=some (z00 h).toArray.size:=by
  rw [z4R,show (z00 h).toArray.size=32 by simp [z00,hl]]
theorem z0l (h:List Int):(z00 h).toArray.all (·.oneCell')=true:=by
  rw [Array.all_eq_true_iff_forall_mem]
  intro v hv
  exact z1I h v (by simpa using hv)
theorem Flat.at {w:World} {b o n:Nat} {l:List Int} {i:Nat} (h:Flat w (some ⟨b,o,none⟩) n l) (hi:i<n):w.rangeAt b (o+i*32) (z00 (HSH l i)):=by
  intro j v hv
  obtain ⟨b',o',e,_,hc⟩:=h.2.1 (by omega)
  simp only [Option.some.injEq,Addr.mk.injEq] at e
  obtain ⟨rfl,rfl,_⟩:=e
  have hj:j<32:=by
    have:=(List.getElem?_eq_some_iff.1 hv).1
    rw [show (z00 (HSH l i)).length=32 by simp [z00,z0S h.1 hi]] at this
    exact this
  rw [z0z _ _ (by rw [z0S h.1 hi];exact hj),zcq hj] at hv
  rw [show o+i*32+j=o+(32*i+j) by omega,hc _ (by omega)]
  exact hv
theorem zcr (w:World) {h:List Int} (hl:h.length=32) (hr:∀ x∈h,0≤x∧x≤255) (t:TypeId):Bytes (w.alloc (.cells (z00 h).toArray t)) (some ⟨w.heap.size,0,none⟩) 32 h:=by
  refine ⟨hl,fun _=>⟨w.heap.size,0,rfl,by simp,fun i hi=>?_⟩,hr⟩
  rw [Nat.zero_add,World.cell?_alloc_at _ _ _ _ rfl,List.getElem?_toArray,z0z h i (by omega)]
theorem zfv (w:World) (x:Int):(w.alloc (.cells #[.int .u8 x] 5)).ownsRow w.heap.size 5 1 (.slice (some ⟨w.heap.size,0,none⟩) 1 1) 1 (z00 [x]):=
  World.ownsRow_lit w #[.int .u8 x] 1 (Nat.le_refl _) (by simp [maxLen]) rfl
theorem zfw {w:World} {base n:Nat} {v:Value} {l:List Int} (h:w.ownsRow base 5 1 v n (z00 l)):l.length=n:=by
  have:=h.1
  simpa [z00] using this
set_option maxHeartbeats 1000000 in
theorem zaN (k:Int) (X Y:Nat) (hX:X<2 ^ 64) (hY:Y<2 ^ 64) (a:Option Addr) (n c:Nat) (hn:n≤1000) (l:List Int) (w:World) (hF:Flat w a n l):
    Calls Tryz.prog 27 #[.int .u8 k,.int .u64 (X:Int),.int .u64 (Y:Int),.slice a n c] w fun e w'=>∃ v,e=.returned v∧w'.ownsRow w.heap.size 5 1 v (k :: (z0h X ++ z0h Y ++ l)).length (z00 (k :: (z0h X ++ z0h Y ++ l)))∧Below w.heap.size w w':=by
  have c1:=z7V X hX
  have c2:=z7V Y hY
  have hl1:=z0H X
  have hl2:=z0H Y
  have h91:=z3D X
  have h92:=z3D Y
  have hr1:=z2u hX
  have hr2:=z2u hY
  obtain ⟨L,hL⟩:∃ L,k :: (z0h X ++ z0h Y ++ l)=L:=⟨_,rfl⟩
  rw [hL]
  obtain ⟨N,hN⟩:∃ N,L.length=N:=⟨_,rfl⟩
  rw [hN]
  generalize z0h X=SX at *
  generalize z0h Y=SY at *
  have hn1:0<NTOP X+1:=by omega
  have hn2:0<NTOP Y+1:=by omega
  have hm1:NTOP X+1≤10:=by omega
  have hm2:NTOP Y+1≤10:=by omega
  clear h91 h92
  generalize NTOP X+1=nx at *
  generalize NTOP Y+1=ny at *
  have HA:Aside (Flat w a n l∧n≤1000∧SX.length=nx∧SY.length=ny∧nx≤10∧ny≤10∧(∀ x∈SX,0≤x∧x≤255)∧(∀ x∈SY,0≤x∧x≤255)):=⟨hF,hn,hl1,hl2,hm1,hm2,hr1,hr2⟩
  have HL:Aside ([k] ++ SX ++ SY ++ l=L∧L.length=N):=⟨by rw [← hL];simp,hN⟩
  clear hF hn hl1 hl2 hm1 hm2 hr1 hr2 hL hN hX hY
  go_enter Tryz.func27,Tryz.ntmps27
  go_wp2_with fail
  have R0:Aside ((w.alloc (.cells #[.int .u8 k] 5)).ownsRow w.heap.size 5 1 (.slice (some ⟨w.heap.size,0,none⟩) 1 1) 1 (z00 [k])∧Below w.heap.size w (w.alloc (.cells #[.int .u8 k] 5))):=⟨zfv w k,(Below.refl _ _).alloc (Nat.le_refl _) _⟩
  generalize w.alloc (.cells #[.int .u8 k] 5)=w1 at *
  refine (c1 _).mono ?_
  rintro e w2 ⟨g,cap,rfl,hown,hg,hb⟩
  clear c1
  have R1:Aside (w2.ownsRow w.heap.size 5 1 (.slice (some ⟨w.heap.size,0,none⟩) 1 1) 1 (z00 [k])∧Below w.heap.size w w2∧Bytes w2 (some ⟨g,0,none⟩) nx SX):=⟨z0c R0.out.1 hb,R0.out.2.trans (hb.mono R0.out.2.size),z2D hown hg HA.out.2.2.2.2.2.2.1⟩
  clear hown hg hb R0
  go_wp2_with (at_builtin;refine z20 _ rfl (.tmp 14) (.tmp 16) rfl w.heap.size _ 1 [k] rfl R1.out.1 g 0 nx cap SX rfl R1.out.2.2 hn1 (by have:=HA.out.2.2.2.2.1;omega) R1.out.2.1.size ?_;intro g3 cap3 w3 hown hgrow hg)
  have R2:Aside (w3.ownsRow w.heap.size 5 1 (.slice (some ⟨g3,0,none⟩) (1+nx) cap3) (1+nx) (z00 ([k] ++ SX))∧Below w.heap.size w w3):=⟨hown,R1.out.2.1.grown hgrow R1.out.2.1.size (fun k e=>(R1.out.1.lt k e).1)⟩
  clear hown hgrow hg R1
  refine (c2 _).mono ?_
  rintro e w4 ⟨g4,cap4,rfl,hown,hg,hb⟩
  clear c2
  have R3:Aside (w4.ownsRow w.heap.size 5 1 (.slice (some ⟨g3,0,none⟩) (1+nx) cap3) (1+nx) (z00 ([k] ++ SX))∧Below w.heap.size w w4∧Bytes w4 (some ⟨g4,0,none⟩) ny SY):=⟨z0c R2.out.1 hb,R2.out.2.trans (hb.mono R2.out.2.size),z2D hown hg HA.out.2.2.2.2.2.2.2⟩
  clear hown hg hb R2
  go_wp2_with (at_builtin;refine z20 _ rfl (.tmp 18) (.tmp 20) rfl w.heap.size _ (1+nx) ([k] ++ SX) rfl R3.out.1 g4 0 ny cap4 SY rfl R3.out.2.2 hn2 (by have:=HA.out.2.2.2.2;omega) R3.out.2.1.size ?_;intro g5 cap5 w5 hown hgrow hg)
  have R4:Aside (w5.ownsRow w.heap.size 5 1 (.slice (some ⟨g5,0,none⟩) (1+nx+ny) cap5) (1+nx+ny) (z00 ([k] ++ SX ++ SY))∧Below w.heap.size w w5):=⟨hown,R3.out.2.1.grown hgrow R3.out.2.1.size (fun k e=>(R3.out.1.lt k e).1)⟩
  clear hown hgrow hg R3
  have HP:Aside (1+nx+ny≤21):=by
    obtain ⟨_,_,_,_,h5,h6,_⟩:=HA.out
    show 1+nx+ny≤21
    omega
  generalize [k] ++ SX ++ SY=PRE at *
  generalize 1+nx+ny=np at *
  go_loopg [9,24] n (fun q s9 s24 wx=>∃ i:Nat,s24=.int .i64 (i:Int)∧Aside (i+q=n∧wx.ownsRow w.heap.size 5 1 s9 (np+32*i) (z00 (PRE ++ l.take (32*i)))∧Below w.heap.size w wx))
  case atStart=>exact ⟨0,rfl,by omega,by simpa using R4.out.1,R4.out.2⟩
  case round=>
    obtain ⟨i,rfl,A⟩:=hrel
    clear R4
    cases gk with
    | zero=>
      obtain ⟨hi,hown,hbel⟩:=A.out
      obtain rfl:i=n:=by omega
      have hlt:¬ (i:Int)<(i:Int):=by omega
      have R:Aside (wr.ownsRow w.heap.size 5 1 u9 N (z00 L)∧Below w.heap.size w wr):=by
        rw [List.take_of_length_le (by have:=HA.out.1.1;omega),HL.out.1] at hown
        have:=zfw hown
        rw [HL.out.2] at this
        rw [← this] at hown
        exact ⟨hown,hbel⟩
      clear hi hown hbel A HA HL HP
      go_wp2
      go_ret
      exact ⟨_,rfl,R.out.1,R.out.2⟩
    | succ q=>
      obtain ⟨hi,hown,hbel⟩:=A.out
      obtain ⟨a1,a2,_⟩:=HA.out
      have hlt:(i:Int)<(n:Int):=by omega
      obtain ⟨b,o,rfl,hbl,hc⟩:=a1.2.1 (by omega)
      have hat:=(a1.below hbel).at (show i<n by omega)
      have h32:=z0S a1.1 (show i<n by omega)
      have hrr:∀ x∈HSH l i,0≤x∧x≤255:=fun x hx=>a1.2.2 x (z9U hx)
      have hnx:=z34 l i
      have e1:wrap64 ((i:Int)+1)=((i+1:Nat):Int):=by unfold wrap64;omega
      have R:Aside (i+1+q=n∧n≤1000∧np≤21∧wr.ownsRow w.heap.size 5 1 u9 (np+32*i) (z00 (PRE ++ l.take (32*i)))∧Below w.heap.size w wr∧(HSH l i).length=32∧(∀ x∈HSH l i,0≤x∧x≤255)∧PRE ++ l.take (32*(i+1))=PRE ++ l.take (32*i) ++ HSH l i):=⟨by omega,a2,HP.out,hown,hbel,h32,hrr,by rw [hnx,List.append_assoc]⟩
      generalize HSH l i=H at *
      clear hi hown hbel a1 a2 hbl hc hrr hnx A HA HL HP
      go_wp2_with (first
        | (refine wpList_load_mid rfl 32 (.tmp 26) rfl b (o+i*32) rfl (z00 H) _ hat Tryz.underlying32 rfl (z0k h32) ?_)
        | (refine wpList_store_row rfl 32 (.tmp 11) (.tmp 27) rfl _ _ rfl rfl 32 _ (Has.new wr _ _) (z08 h32) (by simp [z00,h32]) (z0l H) ?_;rw [World.setRow_alloc_new])
        | (at_builtin;refine z20 _ rfl (.tmp 28) (.tmp 29) rfl w.heap.size u9 (np+32*i) _ rfl (R.out.2.2.2.1.alloc _) wr.heap.size 0 32 32 H rfl (zcr wr R.out.2.2.2.2.2.1 R.out.2.2.2.2.2.2.1 _) (by omega) (by have:=R.out;omega) (by have:=R.out.2.2.2.2.1.size;simp;omega) ?_;intro g6 cap6 w6 hown hgrow hg))
      have R2:Aside (i+1+q=n∧w6.ownsRow w.heap.size 5 1 (.slice (some ⟨g6,0,none⟩) (np+32*i+32) cap6) (np+32*(i+1)) (z00 (PRE ++ l.take (32*(i+1))))∧Below w.heap.size w w6):=by
        obtain ⟨r1,r2,r3,r4,r5,r6,r7,r8⟩:=R.out
        refine ⟨r1,?_,(r5.alloc r5.size _).grown hgrow (by have:=r5.size;simp;omega) (fun k e=>(r4.lt k e).1)⟩
        rw [r8,show np+32*(i+1)=np+32*i+32 by omega]
        exact hown
      clear hown hgrow hg R hat h32
      go_wp2
      go_roundg q
      case measure=>omega
      case rel=>exact ⟨i+1,by first | rfl | (rw [e1]),R2.out⟩
end Go.Proofs.YthjeeblddipiiaaGreatDoor

namespace Go.Proofs.YthjeeblddipiiaaGreatDoor
open Go.RowKit
set_option maxRecDepth 100000
def PLA (i n:Nat):Int × List Nat:=if 4611686018427387904<n then (30,[]) else if n≤i then (32,[]) else (0,PLCS (PSP i n))
def PPA (m n:Nat):Int × List Nat:=if 4611686018427387904<n∨n<m then (30,[]) else (0,PLCS (PXS m n))
theorem z9V (i n:Nat):(PLA i n).2.length≤188:=by
  unfold PLA
  split
  · simp
  · split
    · simp
    · have:=z9T (i:=i) (n:=n) (by omega) (by omega)
      simp only [z0o]
      omega
theorem z6l (m n:Nat):(PPA m n).2.length≤188:=by
  unfold PPA
  split
  · simp
  · have:=z3V (m:=m) (n:=n) (by omega) (by omega)
    simp only [z0o]
    omega
theorem z6m (w:World):w.ownsRow w.heap.size 23 1 (.slice none 0 0) ([]:List Nat).length (UCELLS []):=World.ownsRow_nil _ _ _ _
theorem z5z (i n:Nat) (w:World) (hT:Tabled w) (h0:0<w.heap.size):Calls Tryz.prog 24 #[.int .u64 (i:Int),.int .u64 (n:Int)] w fun e w'=>
    ∃ v,e=.returned (.tuple #[v,.int .i64 (PLA i n).1])∧w'.ownsRow w.heap.size 23 1 v (PLA i n).2.length (UCELLS (PLA i n).2)∧Below w.heap.size w w':=by
  unfold PLA
  split
  · refine (z93 _ _ (by omega) w).mono ?_
    rintro e w' ⟨rfl,rfl⟩
    exact ⟨_,rfl,z6m w,Below.refl _ _⟩
  · split
    · refine (z80 _ _ (by omega) (by omega) w).mono ?_
      rintro e w' ⟨rfl,rfl⟩
      exact ⟨_,rfl,z6m w,Below.refl _ _⟩
    · exact zco i n (by omega) (by omega) w hT h0
theorem z3E (m n:Nat) (w:World) (hT:Tabled w) (h0:0<w.heap.size):Calls Tryz.prog 39 #[.int .u64 (m:Int),.int .u64 (n:Int)] w fun e w'=>
    ∃ v,e=.returned (.tuple #[v,.int .i64 (PPA m n).1])∧w'.ownsRow w.heap.size 23 1 v (PPA m n).2.length (UCELLS (PPA m n).2)∧Below w.heap.size w w':=by
  unfold PPA
  split
  · refine (z5f _ _ (by omega) w).mono ?_
    rintro e w' ⟨rfl,rfl⟩
    exact ⟨_,rfl,z6m w,Below.refl _ _⟩
  · exact z5y m n (by omega) (by omega) w hT h0
def ENCB (k E:Int) (P n X Y:Nat) (l:List Int):Int × List Int:=if E≠0 then (E,[]) else if n≠P then (70,[]) else (0,k :: (z0h X ++ z0h Y ++ l))
def ENX (F S n:Nat) (l:List Int):Int × List Int:=ENCB 80 (PPA F S).1 (PPA F S).2.length n F S l
theorem z5A (w:World) (b:Nat):w.ownsRow b 5 1 (.slice none 0 0) ([]:List Int).length (z00 []):=World.ownsRow_nil _ _ _ _
def ANSB (w:World) (A:Int × List Int) (e:Ending) (w':World):Prop:=∃ v,e=.returned (.tuple #[v,.int .i64 A.1])∧w'.ownsRow w.heap.size 5 1 v A.2.length (z00 A.2)∧Below w.heap.size w w'
set_option maxHeartbeats 1000000 in
theorem z5g (X Y E:Int) (a:Option Addr) (n c np:Nat) (P:List Nat) (L:List Int) (hnp:P.length=np) (w:World)
    (C1:Aside (∀ W,Below w.heap.size w W→Calls Tryz.prog 39 #[.int .u64 X,.int .u64 Y] W fun e w'=>∃ v,e=.returned (.tuple #[v,.int .i64 E])∧w'.ownsRow W.heap.size 23 1 v np (UCELLS P)∧Below W.heap.size W w'))
    (C2:Aside (∀ W,Below w.heap.size w W→Calls Tryz.prog 27 #[.int .u8 80,.int .u64 X,.int .u64 Y,.slice a n c] W fun e w'=>∃ v,e=.returned v∧w'.ownsRow W.heap.size 5 1 v L.length (z00 L)∧Below W.heap.size W w')):
    Calls Tryz.prog 17 #[.agg #[.int .u64 X,.int .u64 Y,.slice a n c]] w (ANSB w (if E≠0 then (E,[]) else if n≠np then (70,[]) else (0,L))):=by
  obtain ⟨A,hA⟩:∃ A,(if E≠0 then (E,[]) else if n≠np then (70,[]) else (0,L))=A:=⟨_,rfl⟩
  rw [hA]
  have HA:Aside ((if E≠0 then (E,[]) else if n≠np then (70,[]) else (0,L))=A):=hA
  clear hA
  obtain ⟨nl,hnl⟩:∃ nl,L.length=nl:=⟨_,rfl⟩
  rw [hnl] at C2
  have HN:Aside (L.length=nl):=hnl
  have HP:Aside (P.length=np):=hnp
  clear hnl hnp
  go_enter Tryz.func17,Tryz.ntmps17
  go_wp2_with fail
  have hH:=Has.new w #[.int .u64 X,.int .u64 Y,.slice a n c] 47
  have hB:Aside (Below w.heap.size w (w.alloc (.cells #[.int .u64 X,.int .u64 Y,.slice a n c] 47))):=(Below.refl _ _).alloc (Nat.le_refl _) _
  refine (C1.out _ hB.out).mono ?_
  rintro e w1 ⟨v,rfl,hrow,hb⟩
  have hH:=hH.keep hb
  have hz0:w1.cell? ⟨w.heap.size,0,none⟩=some (.int .u64 X):=hH.cell 0
  have hz1:w1.cell? ⟨w.heap.size,1,none⟩=some (.int .u64 Y):=hH.cell 1
  have hz2:w1.cell? ⟨w.heap.size,2,none⟩=some (.slice a n c):=hH.cell 2
  have R:Aside (Below w.heap.size w w1):=hB.out.trans (hb.mono hB.out.size)
  obtain ⟨av,cv,rfl,_⟩:=z0O hrow
  clear hrow hb hH hB C1
  by_cases hE:E=0
  · subst hE
    by_cases hn:n=np
    · subst hn
      go_wp2_with fail
      refine (C2.out _ R.out).mono ?_
      rintro e w2 ⟨v,rfl,hrow,hb⟩
      have R2:Aside (w2.ownsRow w.heap.size 5 1 v nl (z00 L)∧Below w.heap.size w w2):=⟨z0J hrow R.out.size,R.out.trans (hb.mono R.out.size)⟩
      clear hrow hb C2 hz0 hz1 hz2 R
      go_wp2
      go_ret2
      have e:(0,L)=A:=by have:=HA.out;simpa using this
      rw [← e]
      refine ⟨v,rfl,?_,R2.out.2⟩
      show w2.ownsRow w.heap.size 5 1 v L.length (z00 L)
      rw [HN.out]
      exact R2.out.1
    · have hne:¬ (n:Int)=(np:Int):=by omega
      have HE:Aside (¬ n=np):=hn
      clear C2 hn
      go_wp2
      go_ret2
      have e:(70,[])=A:=by have:=HA.out;simpa [HE.out] using this
      rw [← e]
      exact ⟨_,rfl,z5A _ _,R.out⟩
  · have HE:Aside (¬ E=0):=hE
    have hne:((E:Int) != 0)=true:=by simp [hE]
    clear C2 hE
    go_wp2
    go_ret2
    have e:(E,[])=A:=by have:=HA.out;simpa [HE.out] using this
    rw [← e]
    exact ⟨_,rfl,z5A _ _,R.out⟩
theorem z5B (X Y:Nat) (hX:X<2 ^ 64) (hY:Y<2 ^ 64) (a:Option Addr) (n c:Nat) (hn:n≤1000) (l:List Int) (w:World) (hF:Flat w a n l) (hT:Tabled w) (h0:0<w.heap.size):
    Calls Tryz.prog 17 #[.agg #[.int .u64 (X:Int),.int .u64 (Y:Int),.slice a n c]] w fun e w'=>
    ∃ v,e=.returned (.tuple #[v,.int .i64 (ENX X Y n l).1])∧w'.ownsRow w.heap.size 5 1 v (ENX X Y n l).2.length (z00 (ENX X Y n l).2)∧Below w.heap.size w w':=by
  refine (z5g X Y (PPA X Y).1 a n c _ (PPA X Y).2 (80 :: (z0h X ++ z0h Y ++ l)) rfl w (fun W h=>z3E X Y W (hT.below h0 h) (Nat.lt_of_lt_of_le h0 h.size)) (fun W h=>zaN 80 X Y hX hY a n c hn l W (hF.below h))).mono ?_
  rintro e w' h
  exact h
end Go.Proofs.YthjeeblddipiiaaGreatDoor

namespace Go.Proofs.YthjeeblddipiiaaGreatDoor
open Go.RowKit
end Go.Proofs.YthjeeblddipiiaaGreatDoor

namespace Go.Proofs.YthjeeblddipiiaaGreatDoor
open Go.RowKit
set_option maxRecDepth 100000
end Go.Proofs.YthjeeblddipiiaaGreatDoor

namespace Go.Proofs.YthjeeblddipiiaaGreatDoor
open Go.RowKit
set_option maxRecDepth 100000
theorem zaO {w w':World} {r:Option Nat} (h:w.grownBy w' r):w.heap.size≤w'.heap.size:=by
  obtain ⟨_,_,_,hs,_⟩:=h
  exact hs
end Go.Proofs.YthjeeblddipiiaaGreatDoor

namespace Go.Proofs.YthjeeblddipiiaaGreatDoor
open Go.RowKit
set_option maxRecDepth 100000
theorem z06 {ops:Array Oper} {o:Oper} {a:Act} {w w':World} {K:Act→World→Prop} {Q:Exit→Act→World→Prop} {E:Prop} {v:Value} (hg:o.guard=none)
    (hrun:(execOp a.eval o).run Tryz.prog w=.ok (.value v) w') (h:K (a.put o.dst v) w'):if Region.wanted o (yielded ops a.tmps)=true then Oper.wp Tryz.prog o a w K Q else E:=by
  have hw:Region.wanted o (yielded ops a.tmps)=true:=by simp [Region.wanted,hg]
  rw [if_pos hw]
  unfold Oper.wp
  rw [hrun]
  exact h
theorem z0U {ops:Array Oper} {o:Oper} {a:Act} {w w':World} {K:Act→World→Prop} {Q:Exit→Act→World→Prop} {E:Prop} (hg:o.guard=none)
    (hrun:(execOp a.eval o).run Tryz.prog w=.ok .skip w') (h:K (a.put o.dst undef) w'):if Region.wanted o (yielded ops a.tmps)=true then Oper.wp Tryz.prog o a w K Q else E:=by
  have hw:Region.wanted o (yielded ops a.tmps)=true:=by simp [Region.wanted,hg]
  rw [if_pos hw]
  unfold Oper.wp
  rw [hrun]
  exact h
theorem z1h {s:Sem Unit} {w w':World} (h:s.run Tryz.prog w=.ok () w'):(do s;pure Next.skip:Sem Next).run Tryz.prog w=.ok .skip w':=by
  simp [h]
theorem z1g {ops:Array Oper} {Q:Exit→Act→World→Prop} {md:Region.Mode} {S:World→Prop} {fuel:Nat} {listed:Array Bool} {a:Act} {w:World} {o:Oper} (i:Nat) (hr:Region.ready md ops listed=[i]) (ho:ops[i]?=some o)
    (h:∀ K':Act→World→Prop,Shut (∀ a w,S w→(S w→wpAnyH Tryz.prog md ops Q S fuel (listed.setIfInBounds i true) a w)→K' a w)→if Region.wanted o (yielded ops a.tmps)=true then Oper.wp Tryz.prog o a w K' Q else K' (a.put o.dst undef) w):wpAnyH Tryz.prog md ops Q S (fuel+1) listed a w:=
  wpAnyH_ready hr (by simp) (AllReadyH.cons ho h AllReadyH.nil)
theorem z07 {s:Sem Value} {w w':World} {v:Value} (h:s.run Tryz.prog w=.ok v w'):(do pure (Next.value (← s)):Sem Next).run Tryz.prog w=.ok (.value v) w':=by
  simp [h,Result.andThen]
theorem z4o {w:World} {b o n c:Nat} {y:Value} {a:Option Addr} (h:w.cell? ⟨b,o,none⟩=some y) (hf:w.frozen? ⟨b,o,none⟩=false):(Instr.storeAt 22 (.pointer (some ⟨b,o,none⟩)) (.slice a n c)).run Tryz.prog w=.ok () (w.setCell ⟨b,o,none⟩ (.slice a n c)):=by go_simp
end Go.Proofs.YthjeeblddipiiaaGreatDoor
