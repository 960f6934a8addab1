/- Texts of ClashForks, one behind the other: CutRefSpan, ProofRefPlaces, ProofLists, RegionSteps, ProofCells, VerifyMap. -/
import Derived.Test.YthpdlnbbbcgemaaGreatDoorProg
import Derived.WalkKit
import Derived.WalkLawsBesides
import Derived.Deep.RegionHeld3
import Derived.Deep.CutRange
import Derived.Deep.MidRow
import Derived.Great.BuildSlice
import Derived.ChangeKeysEq
import Derived.Test.YthpdlnbbbcgemaaGreatDoorClashForksP6
namespace Go.Proofs.YthpdlnbbbcgemaaGreatDoor
open Go.RowKit
theorem z4D (a b:Nat) (h:b≤a∨4611686018427387904<b) (w:World):Calls Tryz.prog 38 #[.int .u64 (a:Int),.int .u64 (b:Int)] w fun e w'=>e=.returned (.slice none 0 0)∧w=w':=by
  have hg1:b≤a∨(¬ b≤a∧(4611686018427387904:Int)<(b:Int)):=by
    by_cases c:b≤a
    · exact .inl c
    · exact .inr ⟨c,by omega⟩
  clear h
  rcases hg1 with hg1 | ⟨hg1,hg2⟩
  all_goals
    go_enter Tryz.func38,Tryz.ntmps38
    go_wp2
    go_ret
    exact ⟨rfl,rfl⟩
theorem zbg (h:Nat) (hh:h<62):wrap64 ((h+1:Nat):Int)=((h+1:Nat):Int):=by unfold wrap64;omega
theorem zeh (h:Nat) (hh:h≤62):wrap64 ((h:Int)+1)=((h+1:Nat):Int):=by unfold wrap64;omega
set_option maxHeartbeats 1000000 in
theorem z6b (a b:Nat) (hab:a<b) (hb:b≤4611686018427387904) (w:World):Calls Tryz.prog 38 #[.int .u64 (a:Int),.int .u64 (b:Int)] w fun e w'=>
    ∃ v,e=.returned v∧w'.ownsRow w.heap.size 79 2 v (SPAN a b).length (z05 (SPAN a b))∧Below w.heap.size w w':=by
  have HB:Aside (b≤4611686018427387904):=hb
  have hg1:¬ b≤a:=by omega
  have hg2:¬ (4611686018427387904:Int)<(b:Int):=by omega
  go_enter Tryz.func38,Tryz.ntmps38
  go_wp2
  clear hg1 hg2
  go_loopg [0,5] (b - a) (fun g s0 s5 wx=>∃ (c:Nat) (pre:List (Nat × Nat)),s0=.int .u64 (c:Int)∧Aside (g=b - c∧c≤b∧pre ++ SPAN c b=SPAN a b∧wx.ownsRow w.heap.size 79 2 s5 pre.length (z05 pre)∧Below w.heap.size w wx))
  case atStart=>exact ⟨a,[],rfl,rfl,Nat.le_of_lt hab,rfl,World.ownsRow_nil _ _ _ _,Below.refl _ _⟩
  case round=>
    obtain ⟨c,pre,rfl,A⟩:=hrel
    obtain ⟨hg,hc,hp,hown,hbel⟩:=A.out
    by_cases hlt:c<b
    · have hlt' : (c:Int)<(b:Int):=by omega
      obtain ⟨s1,s2,s3⟩:=z1Y hlt hb
      have hsp:=z1f hlt
      have hpos:=Nat.two_pow_pos (HT c b)
      have hpl:pre.length≤1000:=by
        have:=congrArg List.length hp
        have:=z1v (a:=a) hb
        rw [List.length_append] at *
        omega
      obtain ⟨HH,hHH⟩:∃ HH,HT c b=HH:=⟨_,rfl⟩
      rw [hHH] at s1 s2 s3 hsp hpos
      have R:Aside (gk=b - c∧c≤b∧pre ++ SPAN c b=SPAN a b∧wr.ownsRow w.heap.size 79 2 u5 pre.length (z05 pre)∧Below w.heap.size w wr∧HH≤62∧Fit c HH b∧¬ Fit c (HH+1) b∧0<2 ^ HH∧pre.length≤1000∧SPAN c b=(HH,c / 2 ^ HH) :: SPAN (c+2 ^ HH) b):=⟨hg,hc,hp,hown,hbel,s1,s2,s3,hpos,hpl,hsp⟩
      clear s1 s2 s3 hsp hpos hpl hg hc hp hown hbel A hHH hlt
      go_wp2
      go_loopg [6] HH (fun g s6 wx=>∃ h:Nat,s6=.int .i64 (h:Int)∧h+g=HH∧wx=wr)
      case atStart=>exact ⟨0,rfl,by omega,rfl⟩
      case round=>
        obtain ⟨h,rfl,hh,rfl⟩:=hrel
        obtain ⟨q1,q2,q3,q4,q5,q6,q7,q8,q9,q10,q11⟩:=R.out
        obtain ⟨d,hd⟩:∃ d,b - c=d:=⟨_,rfl⟩
        have HES:Aside (IntKind.u64.wrap ((b:Int) - (c:Int))=(d:Int)):=by
          show IntKind.u64.wrap ((b:Int) - (c:Int))=(d:Int)
          rw [z06]
          omega
        have hz0:(0:Int)≤(h:Int):=Int.natCast_nonneg h
        have cp0:=z1a h (by omega)
        obtain ⟨P0,hP0⟩:∃ P0,2 ^ h=P0:=⟨_,rfl⟩
        rw [hP0] at cp0
        cases gk with
        | zero=>
          obtain rfl:h=HH:=by omega
          have hP0p:0<P0:=by rw [← hP0];exact q9
          have hP0n:¬ P0=0:=Nat.ne_of_gt hP0p
          have hP0i:¬ (P0:Int)=0:=fun e=>hP0n (Int.ofNat.inj e)
          have hP0':((P0:Int) == 0)=false:=by simp;exact hP0n
          obtain ⟨K,hK⟩:∃ K,c / P0=K:=⟨_,rfl⟩
          have hq1:(c:Int) / (P0:Int)=(K:Int):=by rw [← Int.natCast_ediv,hK]
          have hq2:(c:Int).tdiv (P0:Int)=(K:Int):=by rw [Int.tdiv_eq_ediv_of_nonneg (Int.natCast_nonneg c)];exact hq1
          have hKc:K≤c:=by rw [← hK];exact Nat.div_le_self _ _
          have hb62:=HB.out
          have hf2:=q7.2
          rw [hP0] at hf2 q11 q9
          rw [hK] at q11
          obtain ⟨c',hc'⟩:∃ c',c+P0=c':=⟨_,rfl⟩
          rw [hc'] at q11 hf2
          have hc2:c'<2 ^ 64:=by omega
          have e8:(h:Int) % 256=(h:Int):=by omega
          have HQ:Aside (IntKind.u64.wrap (K:Int)=(K:Int)∧IntKind.u64.wrap ((c:Int)+(P0:Int))=(c':Int)):=⟨by rw [z06];omega,by rw [z06];omega⟩
          have U:Aside (gk=b - c∧c'≤b∧b - c'<gk∧(pre ++ [(h,K)]) ++ SPAN c' b=SPAN a b):=⟨q1,hf2,by omega,by rw [← q3,q11];simp⟩
          have hcase:(¬ (h:Int)<62)∨((h:Int)<62∧∃ (h1 P1 r:Nat),(h:Int)+1=(h1:Int)∧Aside (wrap64 (h1:Int)=(h1:Int))∧¬ P1=0∧¬ (P1:Int)=0∧((P1:Int) == 0)=false∧(∀ w,Calls Tryz.prog 60 #[.int .i64 (h1:Int)] w fun e w'=>e=.returned (.int .u64 (P1:Int))∧w=w')∧(c:Int) % (P1:Int)=(r:Int)∧(c:Int).tmod (P1:Int)=(r:Int)∧(((r:Int) == 0)=false∧¬ r=0∨r=0∧¬ P1≤d∧¬ (P1:Int)≤(d:Int)∧¬ (P1:Int)≤(b:Int) - (c:Int))):=by
            by_cases h62:(h:Int)<62
            · right
              have hpp:=Nat.two_pow_pos (h+1)
              have e1:(c:Int) % ((2 ^ (h+1):Nat):Int)=((c % 2 ^ (h+1):Nat):Int):=(Int.natCast_emod _ _).symm
              refine ⟨h62,h+1,2 ^ (h+1),c % 2 ^ (h+1),rfl,zbg h (by omega),Nat.ne_of_gt hpp,fun e=>Nat.ne_of_gt hpp (Int.ofNat.inj e),?_,z1a (h+1) (by omega),e1,by rw [Int.tmod_eq_emod_of_nonneg (Int.natCast_nonneg c)];exact e1,?_⟩
              · rw [beq_eq_false_iff_ne]
                exact fun e=>Nat.ne_of_gt hpp (Int.ofNat.inj e)
              · by_cases hm:c % 2 ^ (h+1)=0
                · right
                  have hn:¬ 2 ^ (h+1)≤d:=fun hle=>q8 ⟨hm,by omega⟩
                  exact ⟨hm,hn,fun e=>hn (Int.ofNat_le.1 e),by omega⟩
                · left
                  refine ⟨?_,hm⟩
                  rw [beq_eq_false_iff_ne]
                  exact fun e=>hm (Int.ofNat.inj e)
            · exact .inl h62
          clear q1 q2 q3 q6 q7 q8 q9 q11 hP0p hK hKc hb62 hf2 hc2 hd hh hP0 hc'
          rcases hcase with h62 | ⟨h62,h1,P1,r,hh1',HH2,hp1,hp2,hp3,cp1,hr1,hr2,hh3⟩
          · clear q4 q5 q10
            have hq3:=HQ.out.1
            have hq4:=HQ.out.2
            go_wp2_with fail
            refine (cp0 _).mono ?_
            rintro e w' ⟨rfl,rfl⟩
            go_wp2_with (at_builtin;refine z2z _ rfl (.tmp 39) (.tmp 47) rfl w.heap.size u5 pre.length pre rfl (R.out.2.2.2.1.alloc _) _ 1 h K rfl ((Has.at _ _ _ (by simp)).cell 0) ((Has.at _ _ _ (by simp)).cell 1) R.out.2.2.2.2.2.2.2.2.2.1 (Nat.le_trans R.out.2.2.2.2.1.size (by simp)) ?_;intro g' cap w1 hown hgrow hg)
            refine (cp0 _).mono ?_
            rintro e w' ⟨rfl,rfl⟩
            clear hq3
            go_wp2
            go_roundg (b - c')
            case measure=>exact U.out.2.2.1
            case rel=>
              obtain ⟨u1,u2,u3,u4⟩:=U.out
              have r5:=R.out.2.2.2.2.1
              exact ⟨c',pre ++ [(h,K)],rfl,rfl,u2,u4,by rw [List.length_append];exact hown,(r5.alloc r5.size _).grown hgrow (Nat.le_trans r5.size (by simp)) (fun k e=>(R.out.2.2.2.1.lt k e).1)⟩
          · have hh2':=HH2.out
            clear q4 q5 q10
            rcases hh3 with ⟨hr3,hr4⟩ | ⟨rfl,hd1,hd2,hd3⟩
            · have hr5:¬ (c:Int).tmod (P1:Int)=0:=fun e=>hr4 (Int.ofNat.inj (hr2.symm.trans e))
              have hr6:¬ (c:Int) % (P1:Int)=0:=fun e=>hr4 (Int.ofNat.inj (hr1.symm.trans e))
              clear hr1 hr2 hr3 hr4
              go_wp2_with fail
              refine (cp1 _).mono ?_
              rintro e w' ⟨rfl,rfl⟩
              clear hh2' hh1'
              have hq3:=HQ.out.1
              have hq4:=HQ.out.2
              go_wp2_with fail
              refine (cp0 _).mono ?_
              rintro e w' ⟨rfl,rfl⟩
              go_wp2_with (at_builtin;refine z2z _ rfl (.tmp 39) (.tmp 47) rfl w.heap.size u5 pre.length pre rfl (R.out.2.2.2.1.alloc _) _ 1 h K rfl ((Has.at _ _ _ (by simp)).cell 0) ((Has.at _ _ _ (by simp)).cell 1) R.out.2.2.2.2.2.2.2.2.2.1 (Nat.le_trans R.out.2.2.2.2.1.size (by simp)) ?_;intro g' cap w1 hown hgrow hg)
              refine (cp0 _).mono ?_
              rintro e w' ⟨rfl,rfl⟩
              clear hq3
              go_wp2
              go_roundg (b - c')
              case measure=>exact U.out.2.2.1
              case rel=>
                obtain ⟨u1,u2,u3,u4⟩:=U.out
                have r5:=R.out.2.2.2.2.1
                exact ⟨c',pre ++ [(h,K)],rfl,rfl,u2,u4,by rw [List.length_append];exact hown,(r5.alloc r5.size _).grown hgrow (Nat.le_trans r5.size (by simp)) (fun k e=>(R.out.2.2.2.1.lt k e).1)⟩
            · have hes:=HES.out
              go_wp2_with fail
              refine (cp1 _).mono ?_
              rintro e w' ⟨rfl,rfl⟩
              go_wp2_with fail
              refine (cp1 _).mono ?_
              rintro e w' ⟨rfl,rfl⟩
              clear hh2' hh1' hes
              have hq3:=HQ.out.1
              have hq4:=HQ.out.2
              go_wp2_with fail
              refine (cp0 _).mono ?_
              rintro e w' ⟨rfl,rfl⟩
              go_wp2_with (at_builtin;refine z2z _ rfl (.tmp 39) (.tmp 47) rfl w.heap.size u5 pre.length pre rfl (R.out.2.2.2.1.alloc _) _ 1 h K rfl ((Has.at _ _ _ (by simp)).cell 0) ((Has.at _ _ _ (by simp)).cell 1) R.out.2.2.2.2.2.2.2.2.2.1 (Nat.le_trans R.out.2.2.2.2.1.size (by simp)) ?_;intro g' cap w1 hown hgrow hg)
              refine (cp0 _).mono ?_
              rintro e w' ⟨rfl,rfl⟩
              clear hq3
              go_wp2
              go_roundg (b - c')
              case measure=>exact U.out.2.2.1
              case rel=>
                obtain ⟨u1,u2,u3,u4⟩:=U.out
                have r5:=R.out.2.2.2.2.1
                exact ⟨c',pre ++ [(h,K)],rfl,rfl,u2,u4,by rw [List.length_append];exact hown,(r5.alloc r5.size _).grown hgrow (Nat.le_trans r5.size (by simp)) (fun k e=>(R.out.2.2.2.1.lt k e).1)⟩
        | succ g=>
          have h62:(h:Int)<62:=by omega
          have hf:=q7.le (h+1) (by omega)
          have cp1:=z1a (h+1) (by omega)
          have HW:Aside (wrap64 ((h:Int)+1)=((h+1:Nat):Int)):=zeh h (by omega)
          obtain ⟨P1,hP1⟩:∃ P1,2 ^ (h+1)=P1:=⟨_,rfl⟩
          obtain ⟨h1,hh1⟩:∃ h1,h+1=h1:=⟨_,rfl⟩
          have hf1:=hf.1
          have hf2:=hf.2
          rw [hP1] at hf1 hf2 cp1
          rw [hh1] at cp1 HW
          have hP1p:0<P1:=by rw [← hP1];exact Nat.two_pow_pos _
          have hr1:(c:Int) % (P1:Int)=0:=by rw [← Int.natCast_emod,hf1];rfl
          clear hf1
          have hr2:(c:Int).tmod (P1:Int)=0:=by rw [Int.tmod_eq_emod_of_nonneg (Int.natCast_nonneg c)];exact hr1
          have hP0n:¬ P1=0:=Nat.ne_of_gt hP1p
          have hP0i:¬ (P1:Int)=0:=fun e=>hP0n (Int.ofNat.inj e)
          have hP0':((P1:Int) == 0)=false:=by simp;exact hP0n
          have hle:P1≤d:=Nat.le_of_add_le_add_left (a:=c) (by rw [← hd,Nat.add_sub_cancel' q2];exact hf2)
          have hle':(P1:Int)≤(d:Int):=Int.ofNat_le.2 hle
          have hh1':(h:Int)+1=(h1:Int):=by rw [← hh1];rfl
          have hh2':wrap64 (h1:Int)=(h1:Int):=by have:=HW.out;rw [hh1'] at this;exact this
          have V:Aside (h1+g=HH):=by rw [← hh,← hh1,Nat.add_assoc,Nat.add_comm 1 g];rfl
          clear q1 q2 q3 q4 q5 q6 q7 q8 q9 q10 q11 hf hf2 hP1 hh1 hP1p hd hh hP0 cp0
          have hes:=HES.out
          go_wp2_with fail
          refine (cp1 _).mono ?_
          rintro e w' ⟨rfl,rfl⟩
          go_wp2_with fail
          refine (cp1 _).mono ?_
          rintro e w' ⟨rfl,rfl⟩
          go_wp2
          go_roundg g
          case measure=>exact Nat.lt_succ_self _
          case rel=>exact ⟨h1,rfl,V.out,rfl⟩
    · have hlt':¬ (c:Int)<(b:Int):=by omega
      rw [z0W (a:=c) (by omega),List.append_nil] at hp
      have R:Aside (wr.ownsRow w.heap.size 79 2 u5 (SPAN a b).length (z05 (SPAN a b))∧Below w.heap.size w wr):=⟨by rw [← hp];exact hown,hbel⟩
      clear hg hc hp hown hbel A
      go_wp2
      go_ret
      exact ⟨u5,rfl,R.out.1,R.out.2⟩
end Go.Proofs.YthpdlnbbbcgemaaGreatDoor

namespace Go.Proofs.YthpdlnbbbcgemaaGreatDoor
open Go.RowKit
set_option maxRecDepth 100000
theorem z81 (m n:Int) (h:4611686018427387904<n∨n<m) (w:World):Calls Tryz.prog 64 #[.int .u64 m,.int .u64 n] w fun e w'=>e=.returned (.tuple #[.slice none 0 0,.int .i64 30])∧w=w':=by
  by_cases hd:4611686018427387904<n
  · clear h
    go_enter Tryz.func64,Tryz.ntmps64
    go_wp2
    go_ret2
    exact ⟨rfl,rfl⟩
  · have hm:n<m:=by omega
    clear h
    go_enter Tryz.func64,Tryz.ntmps64
    go_wp2
    go_ret2
    exact ⟨rfl,rfl⟩
theorem z9D (a b:Nat) (hb:b≤4611686018427387904) (w:World):Calls Tryz.prog 38 #[.int .u64 (a:Int),.int .u64 (b:Int)] w fun e w'=>
    ∃ v,e=.returned v∧w'.ownsRow w.heap.size 79 2 v (SPAN a b).length (z05 (SPAN a b))∧Below w.heap.size w w':=by
  rcases Nat.lt_or_ge a b with h | h
  · exact z6b a b h hb w
  · refine (z4D a b (.inl h) w).mono ?_
    rintro e w' ⟨rfl,rfl⟩
    refine ⟨_,rfl,?_,Below.refl _ _⟩
    rw [z0W h]
    exact World.ownsRow_nil _ _ _ _
set_option maxHeartbeats 1000000 in
theorem z8E (m n:Nat) (hmn:m≤n) (hn:n≤4611686018427387904) (w:World):Calls Tryz.prog 64 #[.int .u64 (m:Int),.int .u64 (n:Int)] w fun e w'=>
    ∃ v,e=.returned (.tuple #[v,.int .i64 0])∧w'.ownsRow w.heap.size 22 1 v (PLCS (PXS m n)).length (z0h (PLCS (PXS m n)))∧Below w.heap.size w w':=by
  have c1:=z9C m (by omega) w
  have hd:¬ (4611686018427387904:Int)<(n:Int):=by omega
  have hd2:¬ (n:Int)<(m:Int):=by omega
  have hd3:decide (n<m)=false:=by simp;omega
  have hd4:decide ((4611686018427387904:Int)<(n:Int))=false:=by simp;omega
  have c3:=z9D m n hn
  have hP:=z2p (n:=m) (by omega)
  have hP6:=z0O 64 m (by omega)
  have hS:=z1v (a:=m) hn
  have hnode:∀ j h k,(SPAN m n)[j]?=some (h,k)→Node h k:=fun j h k e=>(z0Y hn hmn).node e
  rw [z68 hmn hn]
  generalize z1G m=PK at *
  generalize PC m=P at *
  generalize SPAN m n=S at *
  obtain ⟨L,hL⟩:∃ L,S.length=L:=⟨_,rfl⟩
  rw [hL] at c3
  obtain ⟨X,hX⟩:∃ X,PK ++ PLCS S=X:=⟨_,rfl⟩
  rw [hX]
  obtain ⟨N,hN⟩:∃ N,X.length=N:=⟨_,rfl⟩
  rw [hN]
  have HX:Aside (z0i PK S L=X∧X.length=N):=⟨by rw [← hX,← hL];simp [z0i],hN⟩
  clear hX hN
  have HA:Aside (PK.length=P∧P≤64∧S.length=L∧L≤124∧∀ j h k,S[j]?=some (h,k)→Node h k):=⟨hP,hP6,hL,by omega,hnode⟩
  clear hP hP6 hS hL hnode hmn hn
  go_enter Tryz.func64,Tryz.ntmps64
  go_wp2_with fail
  refine c1.mono ?_
  rintro e w1 ⟨v,rfl,hown,hb⟩
  clear c1
  have R1:Aside (w1.ownsRow w.heap.size 22 1 v P (z0h PK)∧Below w.heap.size w w1):=⟨hown,hb⟩
  clear hown hb
  go_wp2_with fail
  refine (c3 _).mono ?_
  rintro e w2 ⟨vs,rfl,hrow,hb2⟩
  clear c3
  obtain ⟨ga,capp,rfl,hsp⟩:=z2g HA.out.2.2.1 hrow
  have R2:Aside (w2.ownsRow w.heap.size 22 1 v (z0i PK S 0).length (z0h (z0i PK S 0))∧Below w.heap.size w w2∧(∀ k,(Value.slice ga L capp).ownBlock=some k→v.ownBlock≠some k)∧w2.ownsRow w1.heap.size 79 2 (.slice ga L capp) L (z05 S)):=by
    obtain ⟨a1,a2⟩:=R1.out
    refine ⟨?_,a2.trans (hb2.mono a2.size),fun k hk e=>?_,hrow⟩
    · have:(z0i PK S 0)=PK:=by simp [z0i,PLCS]
      rw [this,HA.out.1]
      exact z0q a1 hb2
    · have:=(hrow.lt k hk).1
      have:=(a1.lt k e).2
      omega
  clear R1 hrow hb2 hsp
  go_wp2
  go_loopg [6,8] L (fun q s6 s8 wx=>∃ j:Nat,s8=.int .i64 (j:Int)∧Aside (j+q=L∧wx.ownsRow w.heap.size 22 1 s6 (z0i PK S j).length (z0h (z0i PK S j))∧Below w.heap.size w wx∧(∀ k,(Value.slice ga L capp).ownBlock=some k→s6.ownBlock≠some k)∧wx.ownsRow w1.heap.size 79 2 (.slice ga L capp) L (z05 S)))
  case atStart=>exact ⟨0,rfl,by omega,R2.out⟩
  case round=>
    obtain ⟨j,rfl,A1⟩:=hrel
    clear R2
    cases gk with
    | zero=>
      obtain ⟨hj,hown,hbel,hne,hrow⟩:=A1.out
      obtain rfl:j=L:=by omega
      have hlt:¬ (j:Int)<(j:Int):=by omega
      have R:Aside (wr.ownsRow w.heap.size 22 1 u6 N (z0h X)∧Below w.heap.size w wr):=by
        rw [HX.out.1,HX.out.2] at hown
        exact ⟨hown,hbel⟩
      clear hj hown hbel hne hrow A1 HA
      go_wp2
      go_ret2
      exact ⟨_,rfl,R.out.1,R.out.2⟩
    | succ q=>
      obtain ⟨hj,hown,hbel,hne,hrow⟩:=A1.out
      obtain ⟨a1,a2,a3,a4,a5⟩:=HA.out
      have hlt:(j:Int)<(L:Int):=by omega
      obtain ⟨ga',cap2,ee,hsp⟩:=z2g a3 hrow
      cases ee
      obtain ⟨gs,rfl,hgs,hcs⟩:=hsp (by omega)
      obtain ⟨h,k,eh⟩:=at_lt (l:=S) (i:=j) (by omega)
      obtain ⟨hy0,hy1⟩:=hcs j h k eh
      have hN:=a5 j h k eh
      have cp:=fun w=>z5e h k hN w
      have hnx:z0i PK S (j+1)=z0i PK S j ++ [PLC h k]:=by
        unfold z0i
        rw [z7q eh,List.append_assoc]
      have hll:(z0i PK S j).length≤188:=by
        unfold z0i
        rw [List.length_append,z0N,List.length_take]
        omega
      generalize PLC h k=y at *
      have hne':=hne gs rfl
      have R:Aside (j+1+q=L∧wr.ownsRow w.heap.size 22 1 u6 (z0i PK S j).length (z0h (z0i PK S j))∧Below w.heap.size w wr∧u6.ownBlock≠some gs∧wr.ownsRow w1.heap.size 79 2 (.slice (some ⟨gs,0,none⟩) L capp) L (z05 S)∧z0i PK S (j+1)=z0i PK S j ++ [y]∧(z0i PK S j).length≤1000):=⟨by omega,hown,hbel,hne',hrow,hnx,by omega⟩
      have E1:Aside (wrap64 ((j:Int)+1)=((j+1:Nat):Int)):=by show wrap64 ((j:Int)+1)=((j+1:Nat):Int);unfold wrap64;omega
      clear hj hown hbel hne hrow a1 a2 a3 a4 a5 A1 hnx hll hne' hN eh hcs hgs hsp
      go_wp2_with fail
      refine (cp _).mono ?_
      rintro e w3 ⟨rfl,hb3⟩
      clear cp hy0 hy1
      have R2:Aside (w3.ownsRow w.heap.size 22 1 u6 (z0i PK S j).length (z0h (z0i PK S j))∧Below w.heap.size w w3∧w3.ownsRow w1.heap.size 79 2 (.slice (some ⟨gs,0,none⟩) L capp) L (z05 S)):=by
        obtain ⟨r1,r2,r3,r4,r5,r6,r7⟩:=R.out
        exact ⟨z0q r2 hb3,r3.trans (hb3.mono r3.size),z0q r5 hb3⟩
      clear hb3
      go_wp2_with (at_builtin;refine z8C _ rfl (.tmp 37) (.tmp 39) rfl w.heap.size u6 _ (z0h (z0i PK S j)) rfl (R2.out.1.alloc _) w3.heap.size 1 (y:Int) rfl (by rw [World.cell?_alloc_at _ _ _ _ rfl];rfl) R.out.2.2.2.2.2.2 (by have:=R2.out.2.1.size;simp;omega) ?_;intro g' cap' w4 hown hgrow hat hg)
      have R3:Aside (j+1+q=L∧w4.ownsRow w.heap.size 22 1 (.slice (some ⟨g',0,none⟩) ((z0i PK S j).length+1) cap') (z0i PK S (j+1)).length (z0h (z0i PK S (j+1)))∧Below w.heap.size w w4∧(∀ k,(Value.slice (some ⟨gs,0,none⟩) L capp).ownBlock=some k→some g'≠some k)∧w4.ownsRow w1.heap.size 79 2 (.slice (some ⟨gs,0,none⟩) L capp) L (z05 S)):=by
        obtain ⟨r1,_,_,r4,_,r6,r7⟩:=R.out
        obtain ⟨r2,r3,r5⟩:=R2.out
        have hgp:=r5.lt gs rfl
        refine ⟨r1,?_,(r3.alloc r3.size _).grown hgrow (by have:=r3.size;simp;omega) (fun k e=>(r2.lt k e).1),fun k hk=>?_,(r5.alloc _).kept hgrow (.inr fun e=>r4 e.symm)⟩
        · rw [r6,z2G,List.length_append]
          exact hown
        · cases hk
          exact z7p r4 (by simp;omega) hat
      clear R R2 hown hgrow hat hg
      have e1:=E1.out
      go_wp2
      go_roundg q
      case measure=>exact Nat.lt_succ_self _
      case rel=>exact ⟨j+1,by first | rfl | (rw [E1.out]),R3.out⟩
theorem zcE (m n:Nat) (w:World):Calls Tryz.prog 64 #[.int .u64 (m:Int),.int .u64 (n:Int)] w fun e w'=>
    ∃ v,e=.returned (.tuple #[v,.int .i64 (PPA m n).1])∧w'.ownsRow w.heap.size 22 1 v (PPA m n).2.length (z0h (PPA m n).2)∧Below w.heap.size w w':=by
  unfold PPA
  split
  · refine (z81 _ _ (by omega) w).mono ?_
    rintro e w' ⟨rfl,rfl⟩
    exact ⟨_,rfl,zau w,Below.refl _ _⟩
  · exact z8E m n (by omega) (by omega) w
end Go.Proofs.YthpdlnbbbcgemaaGreatDoor

namespace Go.Proofs.YthpdlnbbbcgemaaGreatDoor
open Go.RowKit
set_option maxRecDepth 100000
theorem zbh {w w':World} {r:Option Nat} (h:w.grownBy w' r):w.heap.size≤w'.heap.size:=by
  obtain ⟨_,_,_,hs,_⟩:=h
  exact hs
theorem z45 {w:World} {B n g m c:Nat} {xs:List Value} (h:w.ownsRow B 22 1 (.slice (some ⟨g,0,none⟩) m c) n xs):m=n:=by
  rcases h.2 with ⟨e,_⟩ | ⟨_,_,_,e,_⟩
  · simp at e
  · simp at e
    omega
end Go.Proofs.YthpdlnbbbcgemaaGreatDoor

namespace Go.Proofs.YthpdlnbbbcgemaaGreatDoor
open Go.RowKit
set_option maxRecDepth 100000
theorem z46 {ops:Array Oper} {o:Oper} {a:Act} {w w':World} {K:Act→World→Prop} {Q:Exit→Act→World→Prop} {E:Prop} {v:Value} (hg:o.guard=none)
    (hrun:(execOp a.eval o).run Tryz.prog w=.ok (.value v) w') (h:K (a.put o.dst v) w'):if Region.wanted o (yielded ops a.tmps)=true then Oper.wp Tryz.prog o a w K Q else E:=by
  have hw:Region.wanted o (yielded ops a.tmps)=true:=by simp [Region.wanted,hg]
  rw [if_pos hw]
  unfold Oper.wp
  rw [hrun]
  exact h
theorem z2i {ops:Array Oper} {o:Oper} {a:Act} {w w':World} {K:Act→World→Prop} {Q:Exit→Act→World→Prop} {E:Prop} (hg:o.guard=none)
    (hrun:(execOp a.eval o).run Tryz.prog w=.ok .skip w') (h:K (a.put o.dst undef) w'):if Region.wanted o (yielded ops a.tmps)=true then Oper.wp Tryz.prog o a w K Q else E:=by
  have hw:Region.wanted o (yielded ops a.tmps)=true:=by simp [Region.wanted,hg]
  rw [if_pos hw]
  unfold Oper.wp
  rw [hrun]
  exact h
theorem z5I {s:Sem Unit} {w w':World} (h:s.run Tryz.prog w=.ok () w'):(do s;pure Next.skip:Sem Next).run Tryz.prog w=.ok .skip w':=by
  simp [h]
theorem z21 {ops:Array Oper} {Q:Exit→Act→World→Prop} {md:Region.Mode} {S:World→Prop} {fuel:Nat} {listed:Array Bool} {a:Act} {w:World} {o:Oper} (i:Nat) (hr:Region.ready md ops listed=[i]) (ho:ops[i]?=some o)
    (h:∀ K':Act→World→Prop,Shut (∀ a w,S w→(S w→wpAnyH Tryz.prog md ops Q S fuel (listed.setIfInBounds i true) a w)→K' a w)→if Region.wanted o (yielded ops a.tmps)=true then Oper.wp Tryz.prog o a w K' Q else K' (a.put o.dst undef) w):wpAnyH Tryz.prog md ops Q S (fuel+1) listed a w:=
  wpAnyH_ready hr (by simp) (AllReadyH.cons ho h AllReadyH.nil)
theorem z3t {s:Sem Value} {w w':World} {v:Value} (h:s.run Tryz.prog w=.ok v w'):(do pure (Next.value (← s)):Sem Next).run Tryz.prog w=.ok (.value v) w':=by
  simp [h,Result.andThen]
end Go.Proofs.YthpdlnbbbcgemaaGreatDoor

namespace Go.Proofs.YthpdlnbbbcgemaaGreatDoor
open Go.RowKit
set_option maxRecDepth 100000
theorem z3f {w w':World} {B:Nat} {t:TypeId} {s:Nat} {v:Value} {n:Nat} {xs:List Value} (h:w.ownsRow B t s v n xs) (hk:∀ k,v.ownBlock=some k→w'.heap[k]?=w.heap[k]?):w'.ownsRow B t s v n xs:=by
  refine ⟨h.1,?_⟩
  rcases h.2 with h | ⟨g,cap,cur,rfl,hb,hg,r⟩
  · exact .inl h
  · exact .inr ⟨g,cap,cur,rfl,hb,by rw [hk g rfl];exact hg,r⟩
def ZND:List Int:=List.replicate 32 0
abbrev ZARR:Array Value:=#[.int .u8 0,.int .u8 0,.int .u8 0,.int .u8 0,.int .u8 0,.int .u8 0,.int .u8 0,.int .u8 0,.int .u8 0,.int .u8 0,.int .u8 0,.int .u8 0,.int .u8 0,.int .u8 0,.int .u8 0,.int .u8 0,.int .u8 0,.int .u8 0,.int .u8 0,.int .u8 0,.int .u8 0,.int .u8 0,.int .u8 0,.int .u8 0,.int .u8 0,.int .u8 0,.int .u8 0,.int .u8 0,.int .u8 0,.int .u8 0,.int .u8 0,.int .u8 0]
theorem z1L:(z01 ZND).toArray=ZARR:=rfl
theorem z22:(Tryz.prog.info? 24).map (fun i=>(i.zero,i.size,i.bytes))=some (some (.agg ZARR),32,32):=by kernel_rfl
theorem z47 {ops:Array Oper} {rest:List Oper} {o:Oper} {a:Act} {Q:Exit→Act→World→Prop} (w:World) (hgd:o.guard=none) (s x:Operand)
    (ho:o.op=.call {callee:=.builtin .append,args:=#[s,x],argTypes:=#[40,40]})
    (base:Nat) (v:Value) (n:Nat) (xs:List Value) (hs:a.eval s=v) (hown:w.ownsRow base 24 32 v n xs)
    (b c:Nat) (y:List Int) (hl:y.length=32) (hx:a.eval x=.slice (some ⟨b,0,none⟩) 1 c) (hc:Has w b (z01 y).toArray 24)
    (hb:n≤1000) (hbase:base≤w.heap.size)
    (h:∀ g cap w',w'.ownsRow base 24 32 (.slice (some ⟨g,0,none⟩) (n+1) cap) (n+1) (xs ++ z01 y)→w.grownBy w' v.ownBlock→(v.ownBlock=some g∨g=w.heap.size)→g<w'.heap.size→wpList Tryz.prog ops Q rest (a.put o.dst (.slice (some ⟨g,0,none⟩) (n+1) cap)) w'):wpList Tryz.prog ops Q (o :: rest) a w:=by
  obtain ⟨i,hi,hz,hs1,hby⟩:=info_parts z22
  refine wpList_append_lies w hgd s x 40 ho base 24 i (.agg ZARR) 32 32 Tryz.underlying40 hi hz hs1 hby rfl (by decide) v n xs hs hown ⟨b,0,none⟩ 1 c (z01 y) hx (by rw [z01,List.length_map,hl]) ?_ (z1n y) (by decide) (by simp only [maxLen];omega) (by omega) hbase w.heap.size rfl h
  intro j u hj
  rw [z14,Nat.zero_add,hc.cell,List.getElem?_toArray]
  exact hj
theorem z1S {ops:Array Oper} {rest:List Oper} {o:Oper} {a:Act} {Q:Exit→Act→World→Prop} (w:World) (hg:o.guard=none) (t e:TypeId) (x:Operand) (ho:o.op=.buildSlice t 1 #[(0,x)]) (C:Array Value) (hx:a.eval x=.agg C) (n:Nat) (z:Value) (by':Nat)
    (hu:Tryz.prog.underlying t=some (.slice e)) (hi:(Tryz.prog.info? e).map (fun i=>(i.zero,i.size,i.bytes))=some (some z,n,by')) (hC:C.size=n) (hz:z.cells.size=n) (hn:0<n) (hs:n≤1000)
    (h:wpList Tryz.prog ops Q rest (a.put o.dst (.slice (some ⟨w.heap.size,0,none⟩) 1 1)) (w.alloc (.cells C e))):wpList Tryz.prog ops Q (o :: rest) a w:=by
  obtain ⟨i,hie,hz',hs1,_⟩:=info_parts hi
  refine wpList_buildSlice hg t e 1 _ ho C i z hu hie hz' (by rw [hs1];omega) (by rw [hs1];omega) ?_ h
  have:=Great.fill_whole (s:=n) hn [.agg C] ((Array.range (1*i.size)).map (z.cells[· % z.cells.size]!)) (fun v hv=>by simp at hv;subst hv;exact hC) (by simp [hs1])
  simp [Value.cells] at this
  rw [hs1]
  simp [hx]
  rw [hs1] at this
  exact this
theorem z5g (d:Nat) (h g:List Int) (hh:h.length=32) (hg:g.length=32) (w:World):∀ is:List Nat,(∀ i∈is,i<32)→(Op.eqItems (d+1) 5 1 (z01 h).toArray (z01 g).toArray is).run Tryz.prog w=.ok (is.all fun i=>h.getD i 0 == g.getD i 0) w
  | [],_=>by simp [Op.eqItems]
  | i :: is,hi=>by
    have hp:Tryz.prog.plainKey 5=true:=by kernel_rfl
    have hi32:i<32:=hi i (by simp)
    have h1:=run_part_plain (P:=Tryz.prog) w hp (show (z01 h).toArray[i]?=some (.int .u8 (h.getD i 0)) by rw [List.getElem?_toArray,z0A h i (by omega)])
    have h2:=run_part_plain (P:=Tryz.prog) w hp (show (z01 g).toArray[i]?=some (.int .u8 (g.getD i 0)) by rw [List.getElem?_toArray,z0A g i (by omega)])
    have h3:=run_equalIn_int (P:=Tryz.prog) w d 5 .u8 .u8 (h.getD i 0) (g.getD i 0) Tryz.underlying5
    have ih:=z5g d h g hh hg w is (fun j hj=>hi j (by simp [hj]))
    rw [Op.eqItems,Nat.mul_one]
    simp only [Sem.run_bind,h1,h2,h3,Result.andThen_ok]
    by_cases e:h.getD i 0=g.getD i 0
    · have e2:(h.getD i 0 == g.getD i 0)=true:=by simpa using e
      rw [List.all_cons,e2,Bool.true_and,if_neg (by simp)]
      exact ih
    · have e2:(h.getD i 0 == g.getD i 0)=false:=by simpa using e
      rw [List.all_cons,e2]
      simp
theorem z9E (h g:List Int) (hh:h.length=32) (hg:g.length=32) (w:World):(Op.equalIn 10000 24 (.agg (z01 h).toArray) (.agg (z01 g).toArray)).run Tryz.prog w=.ok ((List.range 32).all fun i=>h.getD i 0 == g.getD i 0) w:=by
  obtain ⟨i8,hi,_⟩:=Option.map_eq_some_iff.1 z0R
  rw [run_equalIn_array (P:=Tryz.prog) w 9999 (z01 h).toArray (z01 g).toArray Tryz.underlying24 hi]
  have hc:Tryz.prog.cellsOf 5=1:=by kernel_rfl
  rw [hc]
  exact z5g 9998 h g hh hg w _ (fun i hi=>by simpa using hi)
theorem zcF {h g:List Int} (hh:h.length=32) (hg:g.length=32):((List.range 32).all fun i=>h.getD i 0 == g.getD i 0)=decide (h=g):=by
  by_cases e:h=g
  · subst e
    simp
  · rw [decide_eq_false e,Bool.eq_false_iff]
    intro hx
    rw [List.all_eq_true] at hx
    apply e
    apply List.ext_getElem (by omega)
    intro i h1 h2
    have:=hx i (by simp;omega)
    simpa [List.getD,h1,h2] using this
theorem z3g {h g:List Int} (hh:h.length=32) (hg:g.length=32) (w:World):(Op.equalIn 10000 24 (.agg (z01 h).toArray) (.agg (z01 g).toArray)).run Tryz.prog w=.ok (decide (h=g)) w:=by
  rw [z9E h g hh hg,zcF hh hg]
theorem zbi:(Tryz.prog.info? 24).map (fun i=>(i.size,i.bytes,i.zero.isSome))=some (32,32,true):=by kernel_rfl
theorem zbj (N:Nat) (hN:N≤1000) (w:World):∃ cur:Array Value,cur.size=N*32∧(Instr.makeSlice 40 (.int .i64 0) (.int .i64 (N:Int))).run Tryz.prog w=.ok (.slice (some ⟨w.heap.size,0,none⟩) 0 N) (w.alloc (.cells cur 24)):=by
  obtain ⟨i,hi,h⟩:=Option.map_eq_some_iff.1 zbi
  simp only [Prod.mk.injEq] at h
  obtain ⟨h1,h2,h3⟩:=h
  obtain ⟨z,hz⟩:=Option.isSome_iff_exists.1 h3
  have h:=run_make (P:=Tryz.prog) w 40 24 i z Tryz.underlying40 hi hz .i64 .i64 0 N (by omega) (by omega) (by rw [h2];omega) (by omega)
  refine ⟨madeCells z.cells (N*i.size),?_,?_⟩
  · rw [size_madeCells,h1]
  · simpa using h
end Go.Proofs.YthpdlnbbbcgemaaGreatDoor

namespace Go.Proofs.YthpdlnbbbcgemaaGreatDoor
open Go.RowKit Go.Maps
set_option maxRecDepth 100000
def RV (v:Value):Option (DataW Value × List MemPlace):=some (.held v,[])
theorem zei (w:World):(zeroValue 24).run Tryz.prog w=.ok (.agg ZARR) w:=by kernel_rfl
def SMAP (w:World) (b n:Nat) (M:Nat→Nat→List Int):Prop:=∃ D:DataW Value,w.ownsMap Tryz.prog 79 RV b n D∧∀ h k,h<256→k<2 ^ 64→D.atKey (KL h k) (.held (.agg ZARR))=.held (.agg (z01 (M h k)).toArray)
def MPUT (M:Nat→Nat→List Int) (h k:Nat) (x:List Int):Nat→Nat→List Int:=fun h' k'=>if h'=h∧k'=k then x else M h' k'
theorem z71 (M:Nat→Nat→List Int) (h k:Nat) (x:List Int):MPUT M h k x h k=x:=by simp [MPUT]
theorem z2Z (M:Nat→Nat→List Int) {h k h' k':Nat} (x:List Int) (e:¬ (h'=h∧k'=k)):MPUT M h k x h' k'=M h' k':=by unfold MPUT;rw [if_neg e]
theorem SMAP.made (w:World):SMAP (w.alloc (.map #[] 0)) w.heap.size 0 (fun _ _=>ZND):=⟨_,World.ownsMap_made w _ _ _,fun h k _ _=>by simp [DataW.atKey];rfl⟩
theorem SMAP.lt {w:World} {b n:Nat} {M:Nat→Nat→List Int} (h:SMAP w b n M):b<w.heap.size:=let ⟨_,h1,_⟩:=h;h1.lt
theorem SMAP.at {w w':World} {b n:Nat} {M:Nat→Nat→List Int} (h:SMAP w b n M) (hb:w'.heap[b]?=w.heap[b]?):SMAP w' b n M:=by
  obtain ⟨D,⟨es,clock,h1,r⟩,h2⟩:=h
  exact ⟨D,⟨es,clock,hb.trans h1,r⟩,h2⟩
theorem SMAP.below {w w':World} {b n:Nat} {M:Nat→Nat→List Int} (h:SMAP w b n M) (hb:Below w.heap.size w w'):SMAP w' b n M:=h.at (hb.block b h.lt)
theorem SMAP.look {w:World} {b n:Nat} {M:Nat→Nat→List Int} (hM:SMAP w b n M) {h k:Nat} (hh:h<256) (hk:k<2 ^ 64):(Instr.lookup 112 (.map (some b)) (SPOT h k) false).run Tryz.prog w=.ok (.agg (z01 (M h k)).toArray) w:=by
  obtain ⟨D,h1,h2⟩:=hM
  obtain ⟨v,ps,r1,r2⟩:=h1.lookup law Tryz.underlying112 (zei w) (show RV (.agg ZARR)=some (.held (.agg ZARR),[]) from rfl) (z3Q hh hk)
  rw [h2 h k hh hk] at r2
  have e:v=.agg (z01 (M h k)).toArray:=by
    simp only [RV,Option.some.injEq,Prod.mk.injEq,DataW.held.injEq] at r2
    exact r2.1
  rw [r1,e]
theorem SMAP.store {w:World} {b n:Nat} {M:Nat→Nat→List Int} (hM:SMAP w b n M) (hn:n≤100000) {h k:Nat} (hh:h<256) (hk:k<2 ^ 64) (x:List Int):∃ w',(Instr.mapUpdate 112 (.map (some b)) (SPOT h k) (.agg (z01 x).toArray)).run Tryz.prog w=.ok () w'∧SMAP w' b (n+1) (MPUT M h k x)∧w.grownBy w' (some b):=by
  obtain ⟨D,h1,h2⟩:=hM
  obtain ⟨w',r1,r2,r3⟩:=h1.update law Tryz.underlying112 (by unfold maxLen;omega) (z3Q hh hk) (show RV (.agg (z01 x).toArray)=some (.held (.agg (z01 x).toArray),[]) from rfl)
  refine ⟨w',r1,⟨_,r2,fun h' k' hh' hk'=>?_⟩,r3⟩
  have hkey:WideAt.IsKeyLit (KL h k):=law.key (z3Q hh hk)
  by_cases e:KL h' k'=KL h k
  · obtain ⟨rfl,rfl⟩:=zcv hh' hk' hh hk e
    rw [Maps.atKey_put_same h1.isMap hkey,z71]
  · rw [Maps.atKey_put_other e,z2Z _ _ (fun e2=>e (by rw [e2.1,e2.2])),h2 h' k' hh' hk']
end Go.Proofs.YthpdlnbbbcgemaaGreatDoor
