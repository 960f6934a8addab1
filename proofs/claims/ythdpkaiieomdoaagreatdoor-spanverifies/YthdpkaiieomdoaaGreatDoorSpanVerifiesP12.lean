/- Texts of SpanVerifies, one behind the other: ProofSame, ProofTexts, ProofRow, ProofFlats, VerifyHanded, VerifyPeaks, VerifyClimb, VerifyBag, VerifyCount, StepLists. -/
import Derived.Deep.AppendLies
import Derived.Test.YthdpkaiieomdoaaGreatDoorSpanVerifiesP11
namespace Go.Proofs.YthdpkaiieomdoaaGreatDoor
open Go.RowKit
set_option maxRecDepth 100000
theorem zel {l k:List Int} {n:Nat} (hl:l.length=32*n) (hk:k.length=32*n) (h:∀ i,i<n→HSH l i=HSH k i):l=k:=by
  have e:∀ i,i≤n→l.take (32*i)=k.take (32*i):=by
    intro i
    induction i with
    | zero=>intro _;simp
    | succ i ih=>intro hi;rw [z2T,z2T,ih (by omega),h i (by omega)]
  have:=e n (Nat.le_refl _)
  rwa [List.take_of_length_le (by omega),List.take_of_length_le (by omega)] at this
@[go_sem] def SHOPSq0:Oper:=⟨some 17,.move (.tmp 0),25,"ref.go:176",#[],none⟩
@[go_sem] def SHOPSq1:Oper:=⟨some 18,.move (.tmp 5),3,"ref.go:176",#[],none⟩
@[go_sem] def SHOPSq2:Oper:=⟨some 19,.indexAddr 25 (.tmp 17) (.tmp 18),0,"ref.go:176",#[⟨0,.data⟩,⟨1,.data⟩],none⟩
@[go_sem] def SHOPSq3:Oper:=⟨some 20,.load 23 (.tmp 19),23,"ref.go:176",#[⟨2,.data⟩],none⟩
@[go_sem] def SHOPSq4:Oper:=⟨some 21,.move (.tmp 1),25,"ref.go:176",#[],none⟩
@[go_sem] def SHOPSq5:Oper:=⟨some 22,.move (.tmp 5),3,"ref.go:176",#[],none⟩
@[go_sem] def SHOPSq6:Oper:=⟨some 23,.indexAddr 25 (.tmp 21) (.tmp 22),0,"ref.go:176",#[⟨4,.data⟩,⟨5,.data⟩],none⟩
@[go_sem] def SHOPSq7:Oper:=⟨some 24,.load 23 (.tmp 23),23,"ref.go:176",#[⟨6,.data⟩],none⟩
@[go_sem] def SHOPSq8:Oper:=⟨some 25,.binOp .neq 23 (.tmp 20) (.tmp 24) 23,4,"ref.go:176",#[⟨3,.data⟩,⟨7,.data⟩],none⟩
def zas:Array Oper:=#[SHOPSq0,SHOPSq1,SHOPSq2,SHOPSq3,SHOPSq4,SHOPSq5,SHOPSq6,SHOPSq7,SHOPSq8]
set_option maxHeartbeats 2000000 in
theorem z4Z {Q:Exit→Act→World→Prop} (u2 u3 u4 u6 u7 u8 u9 u10 u11 u12 u13 u14 u15 u16 u17 u18 u19 u20 u21 u22 u23 u24 u25:Value) (W:World) (w0:World) (ba oa n ca bb ob m cb i:Nat) (H K:List Int) (hH:H.length=32) (hK:K.length=32) (b1:(i:Int)<(n:Int)) (b2:(i:Int)<(m:Int)) (hS:(fun W:World=>W.rangeAt ba (oa+i*32) (z00 H)∧W.rangeAt bb (ob+i*32) (z00 K)∧Below w0.heap.size w0 W) W) (hQ:∀ c (a:Act) (t:Tmp) (v:Value) w,Q (.panic c) (a.put (some t) v) w→Q (.panic c) a w)
    (h:∀ w,(fun W:World=>W.rangeAt ba (oa+i*32) (z00 H)∧W.rangeAt bb (ob+i*32) (z00 K)∧Below w0.heap.size w0 W) w→Q .normal {tmps:=#[.slice (some ⟨ba,oa,none⟩) n ca,.slice (some ⟨bb,ob,none⟩) m cb,u2,u3,u4,.int .i64 (i:Int),u6,u7,u8,u9,u10,u11,u12,u13,u14,u15,u16,.slice (some ⟨ba,oa,none⟩) n ca,.int .i64 (i:Int),.pointer (some ⟨ba,oa+i*32,none⟩),.agg (z00 H).toArray,.slice (some ⟨bb,ob,none⟩) m cb,.int .i64 (i:Int),.pointer (some ⟨bb,ob+i*32,none⟩),.agg (z00 K).toArray,.bool (!decide (H=K))],defers:=[]} w):(Code.region 6 zas true).wp Tryz.prog Q {tmps:=#[.slice (some ⟨ba,oa,none⟩) n ca,.slice (some ⟨bb,ob,none⟩) m cb,u2,u3,u4,.int .i64 (i:Int),u6,u7,u8,u9,u10,u11,u12,u13,u14,u15,u16,u17,u18,u19,u20,u21,u22,u23,u24,u25],defers:=[]} W:=by
  have hs0:(fun W:World=>W.rangeAt ba (oa+i*32) (z00 H)∧W.rangeAt bb (ob+i*32) (z00 K)∧Below w0.heap.size w0 W) W.drew:=⟨hS.1,hS.2.1,hS.2.2.drew⟩
  have k0:∀ w,(fun W:World=>W.rangeAt ba (oa+i*32) (z00 H)∧W.rangeAt bb (ob+i*32) (z00 K)∧Below w0.heap.size w0 W) w→wpAnyH Tryz.prog .any zas Q (fun W:World=>W.rangeAt ba (oa+i*32) (z00 H)∧W.rangeAt bb (ob+i*32) (z00 K)∧Below w0.heap.size w0 W) 9 #[false,false,false,false,false,false,false,false,false] {tmps:=#[.slice (some ⟨ba,oa,none⟩) n ca,.slice (some ⟨bb,ob,none⟩) m cb,u2,u3,u4,.int .i64 (i:Int),u6,u7,u8,u9,u10,u11,u12,u13,u14,u15,u16,u17,u18,u19,u20,u21,u22,u23,u24,u25],defers:=[]} w:=fun w hw=>by
    have hww:(fun W:World=>W.rangeAt ba (oa+i*32) (z00 H)∧W.rangeAt bb (ob+i*32) (z00 K)∧Below w0.heap.size w0 W) w:=hw
    have last:wpAnyH Tryz.prog .any zas Q (fun W:World=>W.rangeAt ba (oa+i*32) (z00 H)∧W.rangeAt bb (ob+i*32) (z00 K)∧Below w0.heap.size w0 W) 0 #[true,true,true,true,true,true,true,true,true] {tmps:=#[.slice (some ⟨ba,oa,none⟩) n ca,.slice (some ⟨bb,ob,none⟩) m cb,u2,u3,u4,.int .i64 (i:Int),u6,u7,u8,u9,u10,u11,u12,u13,u14,u15,u16,.slice (some ⟨ba,oa,none⟩) n ca,.int .i64 (i:Int),.pointer (some ⟨ba,oa+i*32,none⟩),.agg (z00 H).toArray,.slice (some ⟨bb,ob,none⟩) m cb,.int .i64 (i:Int),.pointer (some ⟨bb,ob+i*32,none⟩),.agg (z00 K).toArray,.bool (!decide (H=K))],defers:=[]} w:=wpAnyH_done (by kernel_rfl) (h w hw) _
    refine tkP SHOPSq0 (.slice (some ⟨ba,oa,none⟩) n ca) 0 hQ hww ?_
    simp only [List.set]
    refine tkP SHOPSq1 (.int .i64 (i:Int)) 1 hQ hww ?_
    simp only [List.set]
    refine tkP SHOPSq2 (.pointer (some ⟨ba,oa+i*32,none⟩)) 2 hQ hww ?_
    simp only [List.set]
    refine tkH SHOPSq3 (.agg (z00 H).toArray) 3 hQ (yieldsIf_load_mid (by rfl) 23 (.tmp 19) rfl ba (oa+i*32) rfl (z00 H) _ (fun w h=>h.1) Tryz.underlying23 rfl (z0j hH)) hww ?_
    simp only [List.set]
    refine tkP SHOPSq4 (.slice (some ⟨bb,ob,none⟩) m cb) 4 hQ hww ?_
    simp only [List.set]
    refine tkP SHOPSq5 (.int .i64 (i:Int)) 5 hQ hww ?_
    simp only [List.set]
    refine tkP SHOPSq6 (.pointer (some ⟨bb,ob+i*32,none⟩)) 6 hQ hww ?_
    simp only [List.set]
    refine tkH SHOPSq7 (.agg (z00 K).toArray) 7 hQ (yieldsIf_load_mid (by rfl) 23 (.tmp 23) rfl bb (ob+i*32) rfl (z00 K) _ (fun w h=>h.2.1) Tryz.underlying23 rfl (z0j hK)) hww ?_
    simp only [List.set]
    refine tkH SHOPSq8 (.bool (!decide (H=K))) 8 hQ (Yields.yieldsIf (Or.inl ⟨by rfl,fun W=>z1z (zac hH hK _ _ W)⟩)) hww ?_
    simp only [List.set]
    exact last
  exact wp_region_held_drew (S:=(fun W:World=>W.rangeAt ba (oa+i*32) (z00 H)∧W.rangeAt bb (ob+i*32) (z00 K)∧Below w0.heap.size w0 W)) (by kernel_rfl) hs0 (fun _=>k0 _ hs0)
set_option maxHeartbeats 1000000 in
theorem z2v (a b:Option Addr) (n m ca cb:Nat) (l k:List Int) (w:World) (hA:Flat w a n l) (hB:Flat w b m k) (hn:n≤1000000):
    Calls Tryz.prog 15 #[.slice a n ca,.slice b m cb] w fun e w'=>e=.returned (.bool (decide (l=k)))∧Below w.heap.size w w':=by
  by_cases hnm:n=m
  · subst hnm
    rcases Nat.eq_zero_or_pos n with h | h
    · subst h
      have hd:decide (l=k)=true:=by
        rw [List.eq_nil_of_length_eq_zero hA.1,List.eq_nil_of_length_eq_zero hB.1]
        rfl
      rw [hd]
      clear hA hB hd
      go_enter Tryz.func15,Tryz.ntmps15
      go_wp2
      refine wp_loop_rounds 1 ?_
      rw [rounds_succ]
      go_wp2
      go_ret
      exact ⟨rfl,Below.refl _ _⟩
    · obtain ⟨ba,oa,rfl,la,hca⟩:=hA.2.1 h
      obtain ⟨bb,ob,rfl,lb,hcb⟩:=hB.2.1 h
      have HC:Aside (Flat w (some ⟨ba,oa,none⟩) n l∧Flat w (some ⟨bb,ob,none⟩) n k∧n≤1000000):=⟨hA,hB,hn⟩
      clear hA hB hca hcb la lb hn
      obtain ⟨D,hD⟩:∃ D,D=decide (l=k):=⟨_,rfl⟩
      rw [← hD]
      have HD:Aside (D=decide (l=k)):=hD
      clear hD
      go_enter Tryz.func15,Tryz.ntmps15
      go_wp2
      go_loopg [5] n (fun g s5 wx=>∃ i:Nat,s5=.int .i64 i∧Aside (i+g=n∧Below w.heap.size w wx∧∀ j,j<i→HSH l j=HSH k j))
      case atStart=>exact ⟨0,rfl,by omega,Below.refl _ _,fun j hj=>by omega⟩
      case round=>
        obtain ⟨i,rfl,A⟩:=hrel
        cases gk with
        | zero=>
          obtain rfl:i=n:=by have:=A.out.1;omega
          have hlt:¬ (i:Int)<(i:Int):=by omega
          have hd:Aside (D=true):=by
            show D=true
            rw [HD.out,decide_eq_true_iff]
            exact zel HC.out.1.1 HC.out.2.1.1 A.out.2.2
          clear HD HC
          go_wp2
          go_ret
          exact ⟨by rw [hd.out];rfl,A.out.2.1⟩
        | succ g=>
          obtain ⟨hig,hbel,hbef⟩:=A.out
          have hlt:(i:Int)<(n:Int):=by omega
          have r1:=(HC.out.1.below hbel).at (show i<n by omega)
          have r2:=(HC.out.2.1.below hbel).at (show i<n by omega)
          have l1:=z0y HC.out.1.1 (show i<n by omega)
          have l2:=z0y HC.out.2.1.1 (show i<n by omega)
          have E1:Aside (wrap64 ((i:Int)+1)=((i+1:Nat):Int)):=by have:=HC.out.2.2;show wrap64 ((i:Int)+1)=((i+1:Nat):Int);unfold wrap64;omega
          by_cases he:HSH l i=HSH k i
          · have B:Aside (i+1+g=n∧∀ j,j<i+1→HSH l j=HSH k j):=⟨by omega,fun j hj=>by
              by_cases e:j=i
              · rw [e];exact he
              · exact hbef j (by omega)⟩
            have hdf:(!decide (HSH l i=HSH k i))=false:=by rw [he];simp
            have Z:Aside (Below w.heap.size w wr):=hbel
            clear he hig hbel hbef A HD HC
            generalize HSH l i=H at *
            generalize HSH k i=K at *
            go_upto_region 6 with fail
            refine z4Z _ _ _ _ _ _ _ _ _ _ _ _ _ _ _ _ _ _ _ _ _ _ _ _ w ba oa n ca bb ob n cb i H K l1 l2 hlt hlt ⟨r1,r2,Z.out⟩ (fun _ _ _ _ _ h=>h) ?_
            rintro w1 ⟨_,_,q3⟩
            rw [hdf]
            clear r1 r2 l1 l2 hdf
            have Z2:Aside (Below w.heap.size w w1):=q3
            clear q3 Z
            have e1:=E1.out
            go_wp2
            go_roundg g
            case measure=>exact Nat.lt_succ_self _
            case rel=>exact ⟨i+1,by first | rfl | (rw [E1.out]),B.out.1,Z2.out,B.out.2⟩
          · have hd:Aside (D=false):=by
              show D=false
              rw [HD.out,decide_eq_false_iff_not]
              intro e
              rw [e] at he
              exact he rfl
            have hdf:(!decide (HSH l i=HSH k i))=true:=by simp [he]
            have Z:Aside (Below w.heap.size w wr):=hbel
            clear he hig hbel hbef A HD HC E1
            generalize HSH l i=H at *
            generalize HSH k i=K at *
            go_upto_region 6 with fail
            refine z4Z _ _ _ _ _ _ _ _ _ _ _ _ _ _ _ _ _ _ _ _ _ _ _ _ w ba oa n ca bb ob n cb i H K l1 l2 hlt hlt ⟨r1,r2,Z.out⟩ (fun _ _ _ _ _ h=>h) ?_
            rintro w1 ⟨_,_,q3⟩
            rw [hdf]
            clear r1 r2 l1 l2 hdf
            have Z2:Aside (Below w.heap.size w w1):=q3
            clear q3 Z
            go_wp2
            go_ret
            exact ⟨by rw [hd.out];rfl,Z2.out⟩
  · have hne:¬ (n:Int)=(m:Int):=by omega
    have hd:decide (l=k)=false:=by
      rw [decide_eq_false_iff_not]
      intro e
      rw [e] at hA
      have:=hA.1.symm.trans hB.1
      omega
    rw [hd]
    clear hA hB hd
    go_enter Tryz.func15,Tryz.ntmps15
    go_wp2
    go_ret
    exact ⟨rfl,Below.refl _ _⟩
end Go.Proofs.YthdpkaiieomdoaaGreatDoor

namespace Go.Proofs.YthdpkaiieomdoaaGreatDoor
open Go.RowKit
set_option maxRecDepth 100000
theorem zbG {w:World} {base g n cap:Nat} {l:List Int} {x:Int} (h:w.ownsRow base 5 1 (.slice (some ⟨g,0,none⟩) (n+1) cap) (n+1) (z00 (l ++ [x]))) (hl:l.length=n):w.ownsRow base 5 1 (.slice (some ⟨g,0,none⟩) n cap) n (z00 l)∧n+1≤cap∧w.cell? ⟨g,n,none⟩=some (.int .u8 x):=by
  have hc:=h.cellAt n (by omega)
  have hx:(z00 (l ++ [x]))[n]?=some (.int .u8 x):=by
    rw [← hl]
    simp [z00]
  rcases h.2 with ⟨e,_⟩ | ⟨g',cap',cur,e,hb,hg,h1,h2,h3,h4⟩
  · cases e
  · cases e
    refine ⟨⟨by rw [z00,List.length_map,hl,Nat.mul_one],.inr ⟨g,cap,cur,rfl,hb,hg,by omega,h2,h3,?_⟩⟩,h1,hc.trans hx⟩
    have h5:=congrArg (List.take (n*1)) h4
    rw [List.take_take,show min (n*1) ((n+1)*1)=n*1 by omega] at h5
    rw [h5,z0m,List.take_left' (by rw [z00,List.length_map,hl,Nat.mul_one])]
def zfc (w:World) (n:Nat) (l:List Int) (e:Ending) (w':World):Prop:=
  ∃ g cap,e=.returned (.slice (some ⟨g,0,none⟩) n cap)∧w'.ownsRow w.heap.size 5 1 (.slice (some ⟨g,0,none⟩) n cap) n (z00 l)∧n+1≤cap∧w'.cell? ⟨g,n,none⟩=some (.int .u8 171)∧g<w'.heap.size∧Below w.heap.size w w'
end Go.Proofs.YthdpkaiieomdoaaGreatDoor

namespace Go.Proofs.YthdpkaiieomdoaaGreatDoor
open Go.RowKit
set_option maxRecDepth 100000
theorem zbH {l k:List Int} {n:Nat} (hl:l.length=n) (hk:k.length=n) (h:∀ j,j<n→l.getD j 0=k.getD j 0):l=k:=by
  apply List.ext_getElem (by omega)
  intro i h1 h2
  have:=h i (by omega)
  simpa [List.getD,h1,h2] using this
set_option maxHeartbeats 1000000 in
theorem z4h (a b:Option Addr) (n m ca cb:Nat) (l k:List Int) (w:World) (hA:Bytes w a n l) (hB:Bytes w b m k) (hn:n≤1000000):Calls Tryz.prog 20 #[.slice a n ca,.slice b m cb] w fun e w'=>e=.returned (.bool (decide (l=k)))∧Below w.heap.size w w':=by
  by_cases hnm:n=m
  · subst hnm
    rcases Nat.eq_zero_or_pos n with h | h
    · subst h
      have hd:decide (l=k)=true:=by
        rw [List.eq_nil_of_length_eq_zero hA.1,List.eq_nil_of_length_eq_zero hB.1]
        rfl
      rw [hd]
      clear hA hB hd
      go_enter Tryz.func20,Tryz.ntmps20
      go_wp2
      refine wp_loop_rounds 1 ?_
      rw [rounds_succ]
      go_wp2
      go_ret
      exact ⟨rfl,Below.refl _ _⟩
    · obtain ⟨ba,oa,rfl,la,hca⟩:=hA.2.1 h
      obtain ⟨bb,ob,rfl,lb,hcb⟩:=hB.2.1 h
      have HC:Aside ((∀ i,i<n→w.cell? ⟨ba,oa+i,none⟩=some (.int .u8 (l.getD i 0)))∧(∀ i,i<n→w.cell? ⟨bb,ob+i,none⟩=some (.int .u8 (k.getD i 0)))∧ba<w.heap.size∧bb<w.heap.size∧l.length=n∧k.length=n∧n≤1000000):=⟨hca,hcb,la,lb,hA.1,hB.1,hn⟩
      clear hA hB hca hcb la lb hn
      obtain ⟨D,hD⟩:∃ D,D=decide (l=k):=⟨_,rfl⟩
      rw [← hD]
      have HD:Aside (D=decide (l=k)):=hD
      clear hD
      go_enter Tryz.func20,Tryz.ntmps20
      go_wp2
      go_loopg [5] n (fun g s5 wx=>∃ i:Nat,s5=.int .i64 i∧Aside (i+g=n∧Below w.heap.size w wx∧∀ j,j<i→l.getD j 0=k.getD j 0))
      case atStart=>exact ⟨0,rfl,by omega,Below.refl _ _,fun j hj=>by omega⟩
      case round=>
        obtain ⟨i,rfl,A⟩:=hrel
        cases gk with
        | zero=>
          obtain rfl:i=n:=by have:=A.out.1;omega
          have hlt:¬ (i:Int)<(i:Int):=by omega
          have hd:Aside (D=true):=by
            show D=true
            rw [HD.out,decide_eq_true_iff]
            exact zbH HC.out.2.2.2.2.1 HC.out.2.2.2.2.2.1 A.out.2.2
          clear HD HC
          go_wp2
          go_ret
          exact ⟨by rw [hd.out];rfl,A.out.2.1⟩
        | succ g=>
          obtain ⟨hig,hbel,hbef⟩:=A.out
          have hlt:(i:Int)<(n:Int):=by omega
          have h1:wr.cell? ⟨ba,oa+i,none⟩=some (.int .u8 (l.getD i 0)):=(hbel.cell (by exact HC.out.2.2.1)).trans (HC.out.1 i (by omega))
          have h2:wr.cell? ⟨bb,ob+i,none⟩=some (.int .u8 (k.getD i 0)):=(hbel.cell (by exact HC.out.2.2.2.1)).trans (HC.out.2.1 i (by omega))
          have E1:Aside (wrap64 ((i:Int)+1)=((i+1:Nat):Int)):=by have:=HC.out.2.2.2.2.2.2;show wrap64 ((i:Int)+1)=((i+1:Nat):Int);unfold wrap64;omega
          by_cases he:l.getD i 0=k.getD i 0
          · have B:Aside (i+1+g=n∧Below w.heap.size w wr∧∀ j,j<i+1→l.getD j 0=k.getD j 0):=⟨by omega,hbel,fun j hj=>by
              by_cases e:j=i
              · rw [e];exact he
              · exact hbef j (by omega)⟩
            rw [← he] at h2
            clear he hig hbel hbef A HD HC
            generalize l.getD i 0=v at h1 h2
            have e1:=E1.out
            go_wp2
            go_quiet (fail)
            go_wp2
            go_roundg g
            case measure=>exact Nat.lt_succ_self _
            case rel=>exact ⟨i+1,by first | rfl | (rw [E1.out]),B.out.1,below_drewN B.out.2.1 _,B.out.2.2⟩
          · have hd:Aside (D=false):=by
              show D=false
              rw [HD.out,decide_eq_false_iff_not]
              intro e
              rw [e] at he
              exact he rfl
            have Z:Aside (Below w.heap.size w wr):=hbel
            clear hig hbel hbef A HD HC E1
            generalize l.getD i 0=v1 at h1 he
            generalize k.getD i 0=v2 at h2 he
            go_wp2
            go_quiet (fail)
            go_wp2
            go_ret
            exact ⟨by rw [hd.out];rfl,below_drewN Z.out _⟩
  · have hne:¬ (n:Int)=(m:Int):=by omega
    have hd:decide (l=k)=false:=by
      rw [decide_eq_false_iff_not]
      intro e
      rw [e] at hA
      exact hnm (hA.1.symm.trans hB.1)
    rw [hd]
    clear hA hB hd
    go_enter Tryz.func20,Tryz.ntmps20
    go_wp2
    go_ret
    exact ⟨rfl,Below.refl _ _⟩
theorem Flat.none_nil {w:World} {n:Nat} {l:List Int} (h:Flat w none n l):n=0∧l=[]:=by
  have h0:n=0:=by
    rcases Nat.eq_zero_or_pos n with h0 | h0
    · exact h0
    · obtain ⟨_,_,e,_⟩:=h.2.1 h0
      cases e
  subst h0
  exact ⟨rfl,List.eq_nil_of_length_eq_zero h.1⟩
theorem z3H {w:World} {B n:Nat} {v:Value} {xs:List Value} (h:w.ownsRow B 23 32 v n xs):∃ a c,v=.slice a n c∧n≤c∧(0<n→∃ g,a=some ⟨g,0,none⟩):=by
  rcases h.2 with ⟨rfl,h0⟩ | ⟨g,cap,cur,rfl,_,_,h1,_⟩
  · subst h0
    exact ⟨none,0,rfl,Nat.le_refl _,fun h=>by omega⟩
  · exact ⟨_,_,rfl,h1,fun _=>⟨g,rfl⟩⟩
theorem z5N {ops:Array Oper} {rest:List Oper} {o:Oper} {a:Act} {Q:Exit→Act→World→Prop} (w:World) (hgd:o.guard=none) (s x:Operand)
    (ho:o.op=.call {callee:=.builtin .append,args:=#[s,x],argTypes:=#[25,25]})
    (base:Nat) (v:Value) (n:Nat) (xs:List Value) (hs:a.eval s=v) (hown:w.ownsRow base 23 32 v n xs)
    (ad:Option Addr) (m c:Nat) (l:List Int) (hx:a.eval x=.slice ad m c) (hL:Flat w ad m l) (hc:ad=none→c=0)
    (hb:n+m≤100000) (hbase:base≤w.heap.size)
    (hh:∀ a' c' w',w'.ownsRow base 23 32 (.slice a' (n+m) c') (n+m) (xs ++ z00 l)→w.grownBy w' v.ownBlock→wpList Tryz.prog ops Q rest (a.put o.dst (.slice a' (n+m) c')) w'):wpList Tryz.prog ops Q (o :: rest) a w:=by
  obtain ⟨i,hi,hz,hs1,hby⟩:=info_parts z16
  cases ad with
  | none=>
    obtain rfl:=hc rfl
    obtain ⟨rfl,rfl⟩:=hL.none_nil
    refine wpList_append_own_none hgd s x 25 ho base 23 i 32 Tryz.underlying25 hi v n xs hs hown hx ?_
    obtain ⟨a',c',rfl,_,_⟩:=z3H hown
    have:=hh a' c' w (by simpa [z00] using hown) (z1F _ _)
    simpa using this
  | some ad=>
    have hcells:∀ j u,(z00 l)[j]?=some u→w.cell? (ad.add j)=some u:=by
      intro j u hu
      have hj:j<l.length:=by
        have:=(List.getElem?_eq_some_iff.1 hu).1
        simpa [z00] using this
      have hl:=hL.1
      obtain ⟨g,o',e,_,hc'⟩:=hL.2.1 (by omega)
      cases e
      rw [z0H,hc' j (by omega),← hu,z0k l j hj]
    refine wpList_append_own w hgd s x 25 ho base 23 i _ 32 32 Tryz.underlying25 hi hz hs1 hby rfl (by decide) v n xs hs hown ad m c (z00 l) hx (by rw [z00,List.length_map,hL.1];omega) hcells (z15 l) (by simp only [maxLen];omega) (by omega) hbase ?_
    intro v' w' h1 h2 _
    obtain ⟨a',c',rfl,_,_⟩:=z3H h1
    exact hh a' c' w' h1 h2
def MRK:List Int:=171 :: List.replicate 31 0
theorem z9B:(z00 MRK).toArray=#[.int .u8 171,.int .u8 0,.int .u8 0,.int .u8 0,.int .u8 0,.int .u8 0,.int .u8 0,.int .u8 0,.int .u8 0,.int .u8 0,.int .u8 0,.int .u8 0,.int .u8 0,.int .u8 0,.int .u8 0,.int .u8 0,.int .u8 0,.int .u8 0,.int .u8 0,.int .u8 0,.int .u8 0,.int .u8 0,.int .u8 0,.int .u8 0,.int .u8 0,.int .u8 0,.int .u8 0,.int .u8 0,.int .u8 0,.int .u8 0,.int .u8 0,.int .u8 0]:=rfl
theorem z8K {w:World} {base g n cap:Nat} {l m:List Int} (h:w.ownsRow base 23 32 (.slice (some ⟨g,0,none⟩) (n+1) cap) (n+1) (z00 l ++ z00 m)) (hl:l.length=32*n) (hm:m.length=32):w.ownsRow base 23 32 (.slice (some ⟨g,0,none⟩) n cap) n (z00 l)∧n+1≤cap∧w.rangeAt g (n*32) (z00 m)∧g<w.heap.size:=by
  have hr:w.rangeAt g (n*32) (z00 m):=by
    intro j v hv
    have hj:j<32:=by
      have:=(List.getElem?_eq_some_iff.1 hv).1
      simpa [z00,hm] using this
    have:=h.cellAt (n*32+j) (by omega)
    rw [this,List.getElem?_append_right (by simp [z00];omega),show n*32+j - (z00 l).length=j by simp [z00];omega]
    exact hv
  rcases h.2 with ⟨e,_⟩ | ⟨g',cap',cur,e,hb,hg,h1,h2,h3,h4⟩
  · cases e
  · cases e
    refine ⟨⟨by rw [z00,List.length_map,hl,Nat.mul_comm],.inr ⟨g,cap,cur,rfl,hb,hg,by omega,h2,h3,?_⟩⟩,h1,hr,(Array.getElem?_eq_some_iff.1 hg).1⟩
    have h5:=congrArg (List.take (n*32)) h4
    rw [List.take_take,show min (n*32) ((n+1)*32)=n*32 by omega] at h5
    rw [h5,List.take_left' (by rw [z00,List.length_map,hl,Nat.mul_comm])]
def zfD (w:World) (n:Nat) (l:List Int) (e:Ending) (w':World):Prop:=
  ∃ g cap,e=.returned (.slice (some ⟨g,0,none⟩) n cap)∧w'.ownsRow w.heap.size 23 32 (.slice (some ⟨g,0,none⟩) n cap) n (z00 l)∧n+1≤cap∧w'.rangeAt g (n*32) (z00 MRK)∧g<w'.heap.size∧Below w.heap.size w w'
theorem z3c (w:World):(w.alloc (.cells #[] 23)).ownsRow w.heap.size 23 32 (.slice (some ⟨w.heap.size,0,none⟩) 0 0) 0 []:=
  World.ownsRow_lit w #[] 0 (Nat.le_refl _) (by simp [maxLen]) rfl
end Go.Proofs.YthdpkaiieomdoaaGreatDoor

namespace Go.Proofs.YthdpkaiieomdoaaGreatDoor
open Go.RowKit
set_option maxRecDepth 100000
theorem z2j {w w':World} {g o:Nat} {cs:List Value} (h:w.rangeAt g o cs) (hb:Below w.heap.size w w') (hg:g<w.heap.size):w'.rangeAt g o cs:=fun j v hv=>(hb.cell (p:=⟨g,o+j,none⟩) hg).trans (h j v hv)
theorem Flat.other {w:World} {b o n:Nat} {l:List Int} (h:Flat w (some ⟨b,o,none⟩) n l) {a:Addr} (ha:b≠a.block) (u:Value):Flat (w.setCell a u) (some ⟨b,o,none⟩) n l:=
  ⟨h.1,fun hn=>by
    obtain ⟨b',o',e,hl,hc⟩:=h.2.1 hn
    cases e
    exact ⟨b,o,rfl,Nat.lt_of_lt_of_le hl (KeepsWalks.setCell w a u).size,fun j hj=>(World.cell?_setCell_other w _ _ u (fun e=>ha (congrArg Addr.block e).symm)).trans (hc j hj)⟩,h.2.2⟩
theorem z0L {w:World} {B n:Nat} {a:Option Addr} {c:Nat} {l:List Int} (h:w.ownsRow B 23 32 (.slice a n c) n (z00 l)) (hr:∀ x∈l,0≤x∧x≤255):Flat w a n l:=by
  have hl:l.length=32*n:=by have:=h.1;simpa [z00,Nat.mul_comm] using this
  refine ⟨hl,fun hn=>?_,hr⟩
  rcases h.2 with ⟨e,h0⟩ | ⟨g,cap,cur,e,_,hg,_⟩
  · omega
  · cases e
    refine ⟨g,0,rfl,(Array.getElem?_eq_some_iff.1 hg).1,fun j hj=>?_⟩
    have:=h.cellAt j (by omega)
    rw [Nat.zero_add,this,z0k l j (by omega)]
theorem Bytes.take {w:World} {a:Option Addr} {n:Nat} {l:List Int} (h:Bytes w a n l) {m:Nat} (hm:m≤n):Bytes w a m (l.take m):=by
  refine ⟨by rw [List.length_take,h.1];omega,fun h0=>?_,fun x hx=>h.2.2 x (List.mem_of_mem_take hx)⟩
  obtain ⟨b,o,e,hb,hc⟩:=h.2.1 (by omega)
  refine ⟨b,o,e,hb,fun i hi=>?_⟩
  rw [hc i (by omega),List.getD_eq_getElem?_getD,List.getD_eq_getElem?_getD,List.getElem?_take,if_pos hi]
end Go.Proofs.YthdpkaiieomdoaaGreatDoor

namespace Go.Proofs.YthdpkaiieomdoaaGreatDoor
open Go.RowKit
set_option maxRecDepth 100000
theorem zbI {w:World} {g:Nat} {l:List Int} {t:TypeId} (h:Has w g (z00 l).toArray t):w.rangeAt g 0 (z00 l):=fun j v hv=>by rw [Nat.zero_add,h.cell,List.getElem?_toArray];exact hv
end Go.Proofs.YthdpkaiieomdoaaGreatDoor

namespace Go.Proofs.YthdpkaiieomdoaaGreatDoor
open Go.RowKit
set_option maxRecDepth 100000
end Go.Proofs.YthdpkaiieomdoaaGreatDoor

namespace Go.Proofs.YthdpkaiieomdoaaGreatDoor
open Go.RowKit
set_option maxRecDepth 100000
theorem zbJ:IsH ZND:=⟨rfl,fun x hx=>by
  have:x=0:=by simpa [ZND] using hx
  omega⟩
theorem z7L {l:List Int} {n i:Nat} (hl:l.length=32*n) (hr:∀ x∈l,0≤x∧x≤255) (hi:i<n):IsH (HSH l i):=⟨z0y hl hi,fun x hx=>hr x (z9x hx)⟩
end Go.Proofs.YthdpkaiieomdoaaGreatDoor

namespace Go.Proofs.YthdpkaiieomdoaaGreatDoor
open Go.RowKit
set_option maxRecDepth 100000
def FA (d:Int) (l:List Int) (n:Nat):Nat→List Int
  | 0=>HSH l (n - 1)
  | k+1=>z3F d (HSH l (n - 2 - k)) (FA d l n k)
def FLD (d:Int) (l:List Int) (n:Nat):List Int:=if n=0 then ZND else FA d l n (n - 1)
theorem zat {d:Int} {l:List Int} {n:Nat} (hl:l.length=32*n) (hr:∀ x∈l,0≤x∧x≤255) (hn:0<n):∀ k,IsH (FA d l n k)
  | 0=>z7L hl hr (by omega)
  | k+1=>zd6 _ _ _
theorem zfd {d:Int} {l:List Int} {n:Nat} (hl:l.length=32*n) (hr:∀ x∈l,0≤x∧x≤255):IsH (FLD d l n):=by
  unfold FLD
  split
  · exact zbJ
  · exact zat hl hr (by omega) _
theorem z50 {fn:Func} {p:Tmp} {ty:TypeId} (h:fn.results=#[.cell p ty]) (tmps:Array Value) (w:World) (g:Nat) (t:TypeId) (cs:Array Value) (fr:Nat × Nat) (k:Nat) (el:TypeId)
    (hp:tmps.getD p undef=.pointer (some ⟨g,0,none⟩)) (hg:w.heap[g]?=some (.cells cs t fr))
    (hu:Tryz.prog.underlying ty=some (.array k el)) (hi:(Tryz.prog.info? ty).map (·.size)=some cs.size):
    (results fn tmps).run Tryz.prog w=.ok (.agg cs) w:=by
  have hp':tmps[p]?.getD undef=.pointer (some ⟨g,0,none⟩):=by simpa using hp
  simp [results,h,hp',asAddr,run_loadVar_row w g t ty cs fr (.array k el) hg hu rfl hi]
set_option maxHeartbeats 4000000 in
theorem zbK (d:Int) (a:Option Addr) (n c:Nat) (hn:n≤1000) (l:List Int) (w:World) (hF:Flat w a n l) (hX:HX.Tabled w):
    Calls Tryz.prog 73 #[.int .i64 d,.slice a n c] w fun e w'=>e=.returned (.agg (z00 (FLD d l n)).toArray)∧Below w.heap.size w w':=by
  have R0:Aside (Below w.heap.size w (w.alloc (.cells ZARR 23))∧Has (w.alloc (.cells ZARR 23)) w.heap.size (z00 ZND).toArray 23):=⟨(Below.refl _ _).alloc (Nat.le_refl _) _,by rw [z0P];exact Has.new _ _ _⟩
  by_cases h0:n=0
  · subst h0
    have e:FLD d l 0=ZND:=rfl
    rw [e]
    clear hF hX hn e
    go_enter Tryz.func73,Tryz.ntmps73
    go_upto_region 2 with fail
    rw [show (#[.int .u8 0,.int .u8 0,.int .u8 0,.int .u8 0,.int .u8 0,.int .u8 0,.int .u8 0,.int .u8 0,.int .u8 0,.int .u8 0,.int .u8 0,.int .u8 0,.int .u8 0,.int .u8 0,.int .u8 0,.int .u8 0,.int .u8 0,.int .u8 0,.int .u8 0,.int .u8 0,.int .u8 0,.int .u8 0,.int .u8 0,.int .u8 0,.int .u8 0,.int .u8 0,.int .u8 0,.int .u8 0,.int .u8 0,.int .u8 0,.int .u8 0,.int .u8 0]:Array Value)=ZARR from rfl]
    generalize w.alloc (.cells ZARR 23)=W0 at *
    go_wp2_with (rw [show (#[.int .u8 0,.int .u8 0,.int .u8 0,.int .u8 0,.int .u8 0,.int .u8 0,.int .u8 0,.int .u8 0,.int .u8 0,.int .u8 0,.int .u8 0,.int .u8 0,.int .u8 0,.int .u8 0,.int .u8 0,.int .u8 0,.int .u8 0,.int .u8 0,.int .u8 0,.int .u8 0,.int .u8 0,.int .u8 0,.int .u8 0,.int .u8 0,.int .u8 0,.int .u8 0,.int .u8 0,.int .u8 0,.int .u8 0,.int .u8 0,.int .u8 0,.int .u8 0]:Array Value)=(z00 ZND).toArray from rfl];refine wpList_store_row rfl 23 (.tmp 4) (.tmp 11) rfl _ _ rfl rfl 23 _ R0.out.2 (z03 rfl) rfl (z0i ZND) ?_)
    refine bodyPost_ret (v:=.agg (z00 ZND).toArray) (z50 rfl _ _ w.heap.size 23 _ (0,0) _ _ rfl (Has.row R0.out.2 _) Tryz.underlying23 (z03 rfl)) rfl ⟨rfl,z04 R0.out.1 (Nat.le_refl _) _⟩
  · obtain ⟨m,hm⟩:∃ m,n=m+1:=⟨n - 1,by omega⟩
    obtain ⟨gn,o,rfl,hgn,hcn⟩:=hF.2.1 (by omega)
    have hz:¬ (n:Int)=0:=by omega
    have e1:wrap64 ((n:Int) - 1)=(m:Int):=by unfold wrap64;omega
    have hml:(m:Int)<(n:Int):=by omega
    have hm0:(0:Int)≤(m:Int):=by omega
    have e:FLD d l n=FA d l n m:=by unfold FLD;rw [if_neg h0,show n - 1=m by omega]
    rw [e]
    have HA:Aside (n=m+1∧n≤1000∧Flat w (some ⟨gn,o,none⟩) n l∧HX.Tabled w∧gn<w.heap.size∧∀ k,IsH (FA d l n k)):=⟨hm,hn,hF,hX,hgn,zat hF.1 hF.2.2 (by omega)⟩
    clear hm hn hF hX hgn hcn h0 e
    go_enter Tryz.func73,Tryz.ntmps73
    go_upto_region 3 with fail
    rw [show (#[.int .u8 0,.int .u8 0,.int .u8 0,.int .u8 0,.int .u8 0,.int .u8 0,.int .u8 0,.int .u8 0,.int .u8 0,.int .u8 0,.int .u8 0,.int .u8 0,.int .u8 0,.int .u8 0,.int .u8 0,.int .u8 0,.int .u8 0,.int .u8 0,.int .u8 0,.int .u8 0,.int .u8 0,.int .u8 0,.int .u8 0,.int .u8 0,.int .u8 0,.int .u8 0,.int .u8 0,.int .u8 0,.int .u8 0,.int .u8 0,.int .u8 0,.int .u8 0]:Array Value)=ZARR from rfl]
    generalize w.alloc (.cells ZARR 23)=W0 at *
    have hat:W0.rangeAt gn (o+m*32) (z00 (FA d l n 0)):=by
      have h1:=(HA.out.2.2.1.below R0.out.1).at (show m<n by have:=HA.out.1;omega)
      have h2:FA d l n 0=HSH l m:=by have:=HA.out.1;rw [FA,show n - 1=m by omega]
      rw [h2]
      exact h1
    have h32:=(HA.out.2.2.2.2.2 0).1
    generalize hA0:FA d l n 0=A0 at *
    go_wp2_with (first
      | (refine wpList_load_mid rfl 23 (.tmp 17) rfl gn (o+m*32) rfl (z00 A0) _ hat Tryz.underlying23 rfl (z0j h32) ?_)
      | (refine wpList_store_row rfl 23 (.tmp 6) (.tmp 18) rfl _ _ rfl rfl 23 _ (Has.new W0 _ _) (z03 h32) (by simp [z00,h32]) (z0i A0) ?_;rw [World.setRow_alloc_new]))
    have R1:Aside (Below w.heap.size w (W0.alloc (.cells (z00 A0).toArray 23))∧Has (W0.alloc (.cells (z00 A0).toArray 23)) w.heap.size (z00 ZND).toArray 23∧Has (W0.alloc (.cells (z00 A0).toArray 23)) W0.heap.size (z00 (FA d l n 0)).toArray 23∧w.heap.size<W0.heap.size):=⟨R0.out.1.alloc R0.out.1.size _,R0.out.2.alloc _,by rw [hA0];exact Has.new _ _ _,R0.out.2.lt⟩
    clear hat h32 hA0 R0
    generalize W0.alloc (.cells (z00 A0).toArray 23)=W1 at *
    generalize W0.heap.size=b6 at *
    clear W0
    have K:Aside (w.heap.size<b6):=R1.out.2.2.2
    have E0:Aside (wrap64 ((m:Int) - 1)=(m:Int) - 1):=by have:=HA.out.1;have:=HA.out.2.1;show wrap64 ((m:Int) - 1)=(m:Int) - 1;unfold wrap64;omega
    go_loopg [7] m (fun q s7 wx=>∃ x:Int,s7=.int .i64 x∧Aside (q≤m∧x=(q:Int) - 1∧Below w.heap.size w wx∧Has wx w.heap.size (z00 ZND).toArray 23∧Has wx b6 (z00 (FA d l n (m - q))).toArray 23))
    case atStart=>exact ⟨_,rfl,Nat.le_refl _,E0.out,R1.out.1,R1.out.2.1,by rw [Nat.sub_self];exact R1.out.2.2.1⟩
    case round=>
      obtain ⟨x,rfl,A⟩:=hrel
      clear R1 E0
      cases gk with
      | zero=>
        obtain rfl:x = -1:=by have:=A.out.2.1;omega
        have y32:=(HA.out.2.2.2.2.2 m).1
        have hH4:=A.out.2.2.2.1
        have hH6:Has wr b6 (z00 (FA d l n m)).toArray 23:=A.out.2.2.2.2
        have hb:=A.out.2.2.1
        clear A HA
        generalize hY0:FA d l n m=Y at *
        go_wp2_with (first
          | (refine wpList_load_row rfl 23 (.tmp 6) rfl b6 rfl 23 (z00 Y).toArray (0,0) _ hH6 Tryz.underlying23 rfl (z03 y32) ?_)
          | (refine wpList_store_row rfl 23 (.tmp 4) (.tmp 32) rfl _ _ rfl rfl 23 _ hH4 (z03 y32) (by simp [z00,y32];rfl) (z0i Y) ?_))
        refine bodyPost_ret (v:=.agg (z00 Y).toArray) (z50 rfl _ _ w.heap.size 23 _ (0,0) _ _ rfl (Has.row hH4 _) Tryz.underlying23 (z03 y32)) rfl ⟨by rw [hY0],z04 hb (Nat.le_refl _) _⟩
      | succ q=>
        obtain rfl:x=(q:Int):=by have:=A.out.2.1;omega
        have hq0:(0:Int)≤(q:Int):=by omega
        have hb:=A.out.2.2.1
        obtain ⟨h1,h2,h3,h4,h5,h6⟩:=HA.out
        have hqm:q+1≤m:=A.out.1
        have eY:FA d l n (m - q)=z3F d (HSH l q) (FA d l n (m - (q+1))):=by
          rw [show m - q=(m - (q+1))+1 by omega,FA,show n - 2 - (m - (q+1))=q by omega]
        have hL:IsH (HSH l q):=z7L h3.1 h3.2.2 (by omega)
        have hR:=h6 (m - (q+1))
        have hY:=h6 (m - q)
        have hb1:(q:Int)<(n:Int):=by omega
        have cF:=zd8 d (HSH l q) (FA d l n (m - (q+1))) hL hR wr.drew (h4.below hb.drew)
        have hLr:=((h3.below hb).at (show q<n by omega))
        have hE1:Aside (wrap64 ((q:Int) - 1)=(q:Int) - 1):=by show wrap64 ((q:Int) - 1)=(q:Int) - 1;unfold wrap64;omega
        rw [← eY] at cF
        clear h1 h2 h3 h4 h5 h6 eY hb HA
        generalize FA d l n (m - (q+1))=R at *
        generalize HSH l q=L at *
        have hH6:=A.out.2.2.2.2
        go_upto_region 8 with fail
        refine z71 _ _ _ _ _ _ _ _ _ _ _ _ _ _ _ _ _ _ _ _ _ _ _ _ _ _ _ _ _ wr b6 gn o n c q d L R (FA d l n (m - q)) hL.1 hR.1 hY.1 hb1 hLr (zbI hH6) (fun W=>Below w.heap.size w W∧Has W w.heap.size (z00 ZND).toArray 23) (cF.mono ?_) (fun _ _ _ _ _ h=>h) ?_
        · rintro e w' ⟨rfl,hb⟩
          have hb':Below wr.heap.size wr w':=(Below.refl _ wr).drew.trans hb
          exact ⟨_,rfl,rfl,hH6.keep hb',A.out.2.2.1.trans (hb'.mono A.out.2.2.1.size),A.out.2.2.2.1.keep hb'⟩
        · rintro X w' ⟨rfl,g1,g2,g3⟩
          dsimp only
          have Z:Aside (q≤m∧(q:Int) - 1=(q:Int) - 1∧Below w.heap.size w (w'.setRow b6 (z00 (FA d l n (m - q))).toArray)∧Has (w'.setRow b6 (z00 (FA d l n (m - q))).toArray) w.heap.size (z00 ZND).toArray 23∧Has (w'.setRow b6 (z00 (FA d l n (m - q))).toArray) b6 (z00 (FA d l n (m - q))).toArray 23):=⟨by omega,rfl,z04 g2 (by have:=K.out;omega) _,g3.row_other (by have:=K.out;omega) _,g1.row _⟩
          clear cF hLr hL hR hY hb1 hq0 hqm A g1 g2 g3 hH6
          have e1:=hE1.out
          generalize w'.setRow b6 (z00 (FA d l n (m - q))).toArray=w3 at *
          go_wp2
          go_roundg q
          case measure=>exact Nat.lt_succ_self _
          case rel=>exact ⟨_,rfl,Z.out.1,rfl,Z.out.2.2⟩
end Go.Proofs.YthdpkaiieomdoaaGreatDoor

namespace Go.Proofs.YthdpkaiieomdoaaGreatDoor
open Go.RowKit
set_option maxRecDepth 100000
def BAGA (d:Int) (n k:Nat) (l:List Int):Int × List Int:=
  if 4611686018427387904<n then (30,ZND) else if k≠PC n then (70,ZND) else (0,z0u d n (FLD d l k))
theorem z1O {fn:Func} {p q:Tmp} {ty:TypeId} (h:fn.results=#[.cell p ty,.tmp q]) (tmps:Array Value) (w:World) (g:Nat) (t:TypeId) (cs:Array Value) (fr:Nat × Nat) (k:Nat) (el:TypeId) (v:Value)
    (hp:tmps.getD p undef=.pointer (some ⟨g,0,none⟩)) (hv:tmps.getD q undef=v) (hg:w.heap[g]?=some (.cells cs t fr))
    (hu:Tryz.prog.underlying ty=some (.array k el)) (hi:(Tryz.prog.info? ty).map (·.size)=some cs.size):
    (results fn tmps).run Tryz.prog w=.ok (.tuple #[.agg cs,v]) w:=by
  have hp':tmps[p]?.getD undef=.pointer (some ⟨g,0,none⟩):=by simpa using hp
  have hv':tmps[q]?.getD undef=v:=by simpa using hv
  simp [results,h,hp',hv',asAddr,run_loadVar_row w g t ty cs fr (.array k el) hg hu rfl hi]
set_option maxHeartbeats 4000000 in
theorem zbL (d:Int) (n:Nat) (hn:n<2 ^ 64) (a:Option Addr) (k c:Nat) (w:World) (h1':¬ (4611686018427387904:Int)<(n:Int)) (h2:¬ k=POP n):
    Calls Tryz.prog 37 #[.int .i64 d,.int .u64 (n:Int),.slice a k c] w fun e w'=>e=.returned (.tuple #[.agg (z00 ZND).toArray,.int .i64 70])∧Below w.heap.size w w':=by
  have R0:Aside (Below w.heap.size w (w.alloc (.cells ZARR 23))∧Has (w.alloc (.cells ZARR 23)) w.heap.size (z00 ZND).toArray 23):=⟨(Below.refl _ _).alloc (Nat.le_refl _) _,by rw [z0P];exact Has.new _ _ _⟩
  have cO:=z2O n hn (w.alloc (.cells ZARR 23))
  generalize POP n=pp at *
  have e2:¬ (k:Int)=(pp:Int):=by omega
  clear hn
  go_enter Tryz.func37,Tryz.ntmps37
  go_upto_region 3 with fail
  rw [show (#[.int .u8 0,.int .u8 0,.int .u8 0,.int .u8 0,.int .u8 0,.int .u8 0,.int .u8 0,.int .u8 0,.int .u8 0,.int .u8 0,.int .u8 0,.int .u8 0,.int .u8 0,.int .u8 0,.int .u8 0,.int .u8 0,.int .u8 0,.int .u8 0,.int .u8 0,.int .u8 0,.int .u8 0,.int .u8 0,.int .u8 0,.int .u8 0,.int .u8 0,.int .u8 0,.int .u8 0,.int .u8 0,.int .u8 0,.int .u8 0,.int .u8 0,.int .u8 0]:Array Value)=ZARR from rfl]
  generalize w.alloc (.cells ZARR 23)=W0 at *
  go_wp2_with fail
  refine cO.mono ?_
  rintro e w1 ⟨rfl,rfl⟩
  clear cO
  go_upto_region 4 with fail
  go_wp2_with (rw [show (#[.int .u8 0,.int .u8 0,.int .u8 0,.int .u8 0,.int .u8 0,.int .u8 0,.int .u8 0,.int .u8 0,.int .u8 0,.int .u8 0,.int .u8 0,.int .u8 0,.int .u8 0,.int .u8 0,.int .u8 0,.int .u8 0,.int .u8 0,.int .u8 0,.int .u8 0,.int .u8 0,.int .u8 0,.int .u8 0,.int .u8 0,.int .u8 0,.int .u8 0,.int .u8 0,.int .u8 0,.int .u8 0,.int .u8 0,.int .u8 0,.int .u8 0,.int .u8 0]:Array Value)=(z00 ZND).toArray from rfl];refine wpList_store_row rfl 23 (.tmp 6) (.tmp 16) rfl _ _ rfl rfl 23 _ R0.out.2 (z03 rfl) rfl (z0i ZND) ?_)
  refine bodyPost_ret (v:=.tuple #[.agg (z00 ZND).toArray,.int .i64 70]) (z1O rfl _ _ w.heap.size 23 _ (0,0) _ _ _ rfl rfl (Has.row R0.out.2 _) Tryz.underlying23 (z03 rfl)) rfl ⟨rfl,z04 R0.out.1 (Nat.le_refl _) _⟩
end Go.Proofs.YthdpkaiieomdoaaGreatDoor

namespace Go.Proofs.YthdpkaiieomdoaaGreatDoor
open Go.RowKit
set_option maxRecDepth 100000
theorem zem {P:Program} {o:Oper} {a:Act} {w:World} {K K':Act→World→Prop} {Q Q':Exit→Act→World→Prop} (h:∀ a w,K a w→K' a w) (hq:∀ c a w,Q (.panic c) a w→Q' (.panic c) a w) (hl:LetsOut Q→LetsOut Q') (hh:o.wp P a w K Q):o.wp P a w K' Q':=by
  unfold Oper.wp at *
  generalize (execOp a.eval o).run P w=r at *
  cases r with
  | ok n w'=>
    cases n <;> simp only [Oper.upon] at hh ⊢ <;>
      first
        | exact h _ _ hh
        | exact Calls.mono hh (fun e w'' he=>by cases e <;> first | exact h _ _ he | exact hq _ _ _ he | exact hl he)
        | exact Rows.mono hh (fun _ _ he=>h _ _ he)
  | halt x w'=>cases x <;> simp only [Oper.upon] at hh ⊢ <;> first | exact hq _ _ _ hh | exact hh
theorem z1B {P:Program} {ops:Array Oper} {o:Oper} {a:Act} {w:World} {K:Act→World→Prop} {Q:Exit→Act→World→Prop} {E:Prop} (hw:Region.wanted o (yielded ops a.tmps)=true)
    (h:wpList P ops (fun e a w=>e=Exit.normal∧K a w) [o] a w):if Region.wanted o (yielded ops a.tmps)=true then Oper.wp P o a w K Q else E:=by
  rw [if_pos hw]
  unfold wpList at h
  rw [if_pos hw] at h
  rcases h with h | ⟨_,a',w',h',_⟩
  · exact zem (fun a w h=>by unfold wpList at h;exact h.2) (fun c a w h=>by cases h.1) (fun h=>by obtain ⟨_,_,h,_⟩:=h;cases h) h
  · cases h'
theorem z1C {ops:Array Oper} {o:Oper} {a:Act} {w w':World} {K:Act→World→Prop} {Q:Exit→Act→World→Prop} {E:Prop} {v:Value} (hw:Region.wanted o (yielded ops a.tmps)=true)
    (hrun:(execOp a.eval o).run Tryz.prog w=.ok (.value v) w') (h:K (a.put o.dst v) w'):if Region.wanted o (yielded ops a.tmps)=true then Oper.wp Tryz.prog o a w K Q else E:=by
  rw [if_pos hw]
  unfold Oper.wp
  rw [hrun]
  exact h
end Go.Proofs.YthdpkaiieomdoaaGreatDoor
