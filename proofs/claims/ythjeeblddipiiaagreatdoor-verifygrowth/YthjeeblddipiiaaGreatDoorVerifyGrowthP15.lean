/- Texts of VerifyGrowth, one behind the other: ProofSame, ProofTexts, ProofRow, ProofFlats, VerifyHanded. -/
import Derived.Test.YthjeeblddipiiaaGreatDoorVerifyGrowthP7
import Derived.Test.YthjeeblddipiiaaGreatDoorVerifyGrowthP8
import Derived.Test.YthjeeblddipiiaaGreatDoorVerifyGrowthP9
import Derived.Test.YthjeeblddipiiaaGreatDoorVerifyGrowthP14
namespace Go.Proofs.YthjeeblddipiiaaGreatDoor
open Go.RowKit
set_option maxRecDepth 100000
theorem zfC {l k:List Int} {n:Nat} (hl:l.length=32*n) (hk:k.length=32*n) (h:∀ i,i<n→HSH l i=HSH k i):l=k:=by
  have e:∀ i,i≤n→l.take (32*i)=k.take (32*i):=by
    intro i
    induction i with
    | zero=>intro _;simp
    | succ i ih=>intro hi;rw [z34,z34,ih (by omega),h i (by omega)]
  have:=e n (Nat.le_refl _)
  rwa [List.take_of_length_le (by omega),List.take_of_length_le (by omega)] at this
def z26:Array Oper:=#[⟨some 17,.move (.tmp 0),22,"ref.go:176",#[],none⟩,⟨some 18,.move (.tmp 5),3,"ref.go:176",#[],none⟩,⟨some 19,.indexAddr 22 (.tmp 17) (.tmp 18),0,"ref.go:176",#[⟨0,.data⟩,⟨1,.data⟩],none⟩,⟨some 20,.load 32 (.tmp 19),32,"ref.go:176",#[⟨2,.data⟩],none⟩,⟨some 21,.move (.tmp 1),22,"ref.go:176",#[],none⟩,⟨some 22,.move (.tmp 5),3,"ref.go:176",#[],none⟩,⟨some 23,.indexAddr 22 (.tmp 21) (.tmp 22),0,"ref.go:176",#[⟨4,.data⟩,⟨5,.data⟩],none⟩,⟨some 24,.load 32 (.tmp 23),32,"ref.go:176",#[⟨6,.data⟩],none⟩,⟨some 25,.binOp .neq 32 (.tmp 20) (.tmp 24) 32,4,"ref.go:176",#[⟨3,.data⟩,⟨7,.data⟩],none⟩]
set_option maxHeartbeats 2000000 in
theorem z4Y {Q:Exit→Act→World→Prop} (u2 u3 u4 u6 u7 u8 u9 u10 u11 u12 u13 u14 u15 u16 u17 u18 u19 u20 u21 u22 u23 u24 u25:Value) (W:World) (w0:World) (ba oa n ca bb ob m cb i:Nat) (H K:List Int) (hH:H.length=32) (hK:K.length=32) (b1:(i:Int)<(n:Int)) (b2:(i:Int)<(m:Int)) (hS:(fun W:World=>W.rangeAt ba (oa+i*32) (z00 H)∧W.rangeAt bb (ob+i*32) (z00 K)∧Below w0.heap.size w0 W) W) (hQ:∀ c (a:Act) (t:Tmp) (v:Value) w,Q (.panic c) (a.put (some t) v) w→Q (.panic c) a w)
    (h:∀ w,(fun W:World=>W.rangeAt ba (oa+i*32) (z00 H)∧W.rangeAt bb (ob+i*32) (z00 K)∧Below w0.heap.size w0 W) w→Q .normal {tmps:=#[.slice (some ⟨ba,oa,none⟩) n ca,.slice (some ⟨bb,ob,none⟩) m cb,u2,u3,u4,.int .i64 (i:Int),u6,u7,u8,u9,u10,u11,u12,u13,u14,u15,u16,.slice (some ⟨ba,oa,none⟩) n ca,.int .i64 (i:Int),.pointer (some ⟨ba,oa+i*32,none⟩),.agg (z00 H).toArray,.slice (some ⟨bb,ob,none⟩) m cb,.int .i64 (i:Int),.pointer (some ⟨bb,ob+i*32,none⟩),.agg (z00 K).toArray,.bool (!decide (H=K))],defers:=[]} w):(Code.region 6 z26 true).wp Tryz.prog Q {tmps:=#[.slice (some ⟨ba,oa,none⟩) n ca,.slice (some ⟨bb,ob,none⟩) m cb,u2,u3,u4,.int .i64 (i:Int),u6,u7,u8,u9,u10,u11,u12,u13,u14,u15,u16,u17,u18,u19,u20,u21,u22,u23,u24,u25],defers:=[]} W:=by
  have hs0:(fun W:World=>W.rangeAt ba (oa+i*32) (z00 H)∧W.rangeAt bb (ob+i*32) (z00 K)∧Below w0.heap.size w0 W) W.drew:=⟨hS.1,hS.2.1,hS.2.2.drew⟩
  have k0:∀ w,(fun W:World=>W.rangeAt ba (oa+i*32) (z00 H)∧W.rangeAt bb (ob+i*32) (z00 K)∧Below w0.heap.size w0 W) w→wpAnyH Tryz.prog .any z26 Q (fun W:World=>W.rangeAt ba (oa+i*32) (z00 H)∧W.rangeAt bb (ob+i*32) (z00 K)∧Below w0.heap.size w0 W) 9 #[false,false,false,false,false,false,false,false,false] {tmps:=#[.slice (some ⟨ba,oa,none⟩) n ca,.slice (some ⟨bb,ob,none⟩) m cb,u2,u3,u4,.int .i64 (i:Int),u6,u7,u8,u9,u10,u11,u12,u13,u14,u15,u16,u17,u18,u19,u20,u21,u22,u23,u24,u25],defers:=[]} w:=fun w hw=>by
    have hww:(fun W:World=>W.rangeAt ba (oa+i*32) (z00 H)∧W.rangeAt bb (ob+i*32) (z00 K)∧Below w0.heap.size w0 W) w:=hw
    have last:wpAnyH Tryz.prog .any z26 Q (fun W:World=>W.rangeAt ba (oa+i*32) (z00 H)∧W.rangeAt bb (ob+i*32) (z00 K)∧Below w0.heap.size w0 W) 0 #[true,true,true,true,true,true,true,true,true] {tmps:=#[.slice (some ⟨ba,oa,none⟩) n ca,.slice (some ⟨bb,ob,none⟩) m cb,u2,u3,u4,.int .i64 (i:Int),u6,u7,u8,u9,u10,u11,u12,u13,u14,u15,u16,.slice (some ⟨ba,oa,none⟩) n ca,.int .i64 (i:Int),.pointer (some ⟨ba,oa+i*32,none⟩),.agg (z00 H).toArray,.slice (some ⟨bb,ob,none⟩) m cb,.int .i64 (i:Int),.pointer (some ⟨bb,ob+i*32,none⟩),.agg (z00 K).toArray,.bool (!decide (H=K))],defers:=[]} w:=wpAnyH_done (by kernel_rfl) (h w hw) _
    have t8:wpAnyH Tryz.prog .any z26 Q (fun W:World=>W.rangeAt ba (oa+i*32) (z00 H)∧W.rangeAt bb (ob+i*32) (z00 K)∧Below w0.heap.size w0 W) 1 #[true,true,true,true,true,true,true,true,false] {tmps:=#[.slice (some ⟨ba,oa,none⟩) n ca,.slice (some ⟨bb,ob,none⟩) m cb,u2,u3,u4,.int .i64 (i:Int),u6,u7,u8,u9,u10,u11,u12,u13,u14,u15,u16,.slice (some ⟨ba,oa,none⟩) n ca,.int .i64 (i:Int),.pointer (some ⟨ba,oa+i*32,none⟩),.agg (z00 H).toArray,.slice (some ⟨bb,ob,none⟩) m cb,.int .i64 (i:Int),.pointer (some ⟨bb,ob+i*32,none⟩),.agg (z00 K).toArray,u25],defers:=[]} w:=
      wpAnyH_take (i:=8) (oi:=⟨some 25,.binOp .neq 32 (.tmp 20) (.tmp 24) 32,4,"ref.go:176",#[⟨3,.data⟩,⟨7,.data⟩],none⟩) (v:=.bool (!decide (H=K))) rfl (by kernel_rfl) (by kernel_rfl) (by kernel_rfl) (fun _ _ _ h=>hQ _ _ _ _ _ h) (Yields.yieldsIf (Or.inl ⟨by rfl,fun W=>z07 (zaP hH hK _ _ W)⟩)) hww last
    have t7:wpAnyH Tryz.prog .any z26 Q (fun W:World=>W.rangeAt ba (oa+i*32) (z00 H)∧W.rangeAt bb (ob+i*32) (z00 K)∧Below w0.heap.size w0 W) 2 #[true,true,true,true,true,true,true,false,false] {tmps:=#[.slice (some ⟨ba,oa,none⟩) n ca,.slice (some ⟨bb,ob,none⟩) m cb,u2,u3,u4,.int .i64 (i:Int),u6,u7,u8,u9,u10,u11,u12,u13,u14,u15,u16,.slice (some ⟨ba,oa,none⟩) n ca,.int .i64 (i:Int),.pointer (some ⟨ba,oa+i*32,none⟩),.agg (z00 H).toArray,.slice (some ⟨bb,ob,none⟩) m cb,.int .i64 (i:Int),.pointer (some ⟨bb,ob+i*32,none⟩),u24,u25],defers:=[]} w:=
      wpAnyH_take (i:=7) (oi:=⟨some 24,.load 32 (.tmp 23),32,"ref.go:176",#[⟨6,.data⟩],none⟩) (v:=.agg (z00 K).toArray) rfl (by kernel_rfl) (by kernel_rfl) (by kernel_rfl) (fun _ _ _ h=>hQ _ _ _ _ _ h) (yieldsIf_load_mid (by rfl) 32 (.tmp 23) rfl bb (ob+i*32) rfl (z00 K) _ (fun w h=>h.2.1) Tryz.underlying32 rfl (z0k hK)) hww t8
    have t6:wpAnyH Tryz.prog .any z26 Q (fun W:World=>W.rangeAt ba (oa+i*32) (z00 H)∧W.rangeAt bb (ob+i*32) (z00 K)∧Below w0.heap.size w0 W) 3 #[true,true,true,true,true,true,false,false,false] {tmps:=#[.slice (some ⟨ba,oa,none⟩) n ca,.slice (some ⟨bb,ob,none⟩) m cb,u2,u3,u4,.int .i64 (i:Int),u6,u7,u8,u9,u10,u11,u12,u13,u14,u15,u16,.slice (some ⟨ba,oa,none⟩) n ca,.int .i64 (i:Int),.pointer (some ⟨ba,oa+i*32,none⟩),.agg (z00 H).toArray,.slice (some ⟨bb,ob,none⟩) m cb,.int .i64 (i:Int),u23,u24,u25],defers:=[]} w:=
      wpAnyH_take (i:=6) (oi:=⟨some 23,.indexAddr 22 (.tmp 21) (.tmp 22),0,"ref.go:176",#[⟨4,.data⟩,⟨5,.data⟩],none⟩) (v:=.pointer (some ⟨bb,ob+i*32,none⟩)) rfl (by kernel_rfl) (by kernel_rfl) (by kernel_rfl) (fun _ _ _ h=>hQ _ _ _ _ _ h) (Yields.yieldsIf (Or.inl ⟨by rfl,fun W=>by go_simp⟩)) hww t7
    have t5:wpAnyH Tryz.prog .any z26 Q (fun W:World=>W.rangeAt ba (oa+i*32) (z00 H)∧W.rangeAt bb (ob+i*32) (z00 K)∧Below w0.heap.size w0 W) 4 #[true,true,true,true,true,false,false,false,false] {tmps:=#[.slice (some ⟨ba,oa,none⟩) n ca,.slice (some ⟨bb,ob,none⟩) m cb,u2,u3,u4,.int .i64 (i:Int),u6,u7,u8,u9,u10,u11,u12,u13,u14,u15,u16,.slice (some ⟨ba,oa,none⟩) n ca,.int .i64 (i:Int),.pointer (some ⟨ba,oa+i*32,none⟩),.agg (z00 H).toArray,.slice (some ⟨bb,ob,none⟩) m cb,u22,u23,u24,u25],defers:=[]} w:=
      wpAnyH_take (i:=5) (oi:=⟨some 22,.move (.tmp 5),3,"ref.go:176",#[],none⟩) (v:=.int .i64 (i:Int)) rfl (by kernel_rfl) (by kernel_rfl) (by kernel_rfl) (fun _ _ _ h=>hQ _ _ _ _ _ h) (Yields.yieldsIf (Or.inl ⟨by rfl,fun W=>by go_simp⟩)) hww t6
    have t4:wpAnyH Tryz.prog .any z26 Q (fun W:World=>W.rangeAt ba (oa+i*32) (z00 H)∧W.rangeAt bb (ob+i*32) (z00 K)∧Below w0.heap.size w0 W) 5 #[true,true,true,true,false,false,false,false,false] {tmps:=#[.slice (some ⟨ba,oa,none⟩) n ca,.slice (some ⟨bb,ob,none⟩) m cb,u2,u3,u4,.int .i64 (i:Int),u6,u7,u8,u9,u10,u11,u12,u13,u14,u15,u16,.slice (some ⟨ba,oa,none⟩) n ca,.int .i64 (i:Int),.pointer (some ⟨ba,oa+i*32,none⟩),.agg (z00 H).toArray,u21,u22,u23,u24,u25],defers:=[]} w:=
      wpAnyH_take (i:=4) (oi:=⟨some 21,.move (.tmp 1),22,"ref.go:176",#[],none⟩) (v:=.slice (some ⟨bb,ob,none⟩) m cb) rfl (by kernel_rfl) (by kernel_rfl) (by kernel_rfl) (fun _ _ _ h=>hQ _ _ _ _ _ h) (Yields.yieldsIf (Or.inl ⟨by rfl,fun W=>by go_simp⟩)) hww t5
    have t3:wpAnyH Tryz.prog .any z26 Q (fun W:World=>W.rangeAt ba (oa+i*32) (z00 H)∧W.rangeAt bb (ob+i*32) (z00 K)∧Below w0.heap.size w0 W) 6 #[true,true,true,false,false,false,false,false,false] {tmps:=#[.slice (some ⟨ba,oa,none⟩) n ca,.slice (some ⟨bb,ob,none⟩) m cb,u2,u3,u4,.int .i64 (i:Int),u6,u7,u8,u9,u10,u11,u12,u13,u14,u15,u16,.slice (some ⟨ba,oa,none⟩) n ca,.int .i64 (i:Int),.pointer (some ⟨ba,oa+i*32,none⟩),u20,u21,u22,u23,u24,u25],defers:=[]} w:=
      wpAnyH_take (i:=3) (oi:=⟨some 20,.load 32 (.tmp 19),32,"ref.go:176",#[⟨2,.data⟩],none⟩) (v:=.agg (z00 H).toArray) rfl (by kernel_rfl) (by kernel_rfl) (by kernel_rfl) (fun _ _ _ h=>hQ _ _ _ _ _ h) (yieldsIf_load_mid (by rfl) 32 (.tmp 19) rfl ba (oa+i*32) rfl (z00 H) _ (fun w h=>h.1) Tryz.underlying32 rfl (z0k hH)) hww t4
    have t2:wpAnyH Tryz.prog .any z26 Q (fun W:World=>W.rangeAt ba (oa+i*32) (z00 H)∧W.rangeAt bb (ob+i*32) (z00 K)∧Below w0.heap.size w0 W) 7 #[true,true,false,false,false,false,false,false,false] {tmps:=#[.slice (some ⟨ba,oa,none⟩) n ca,.slice (some ⟨bb,ob,none⟩) m cb,u2,u3,u4,.int .i64 (i:Int),u6,u7,u8,u9,u10,u11,u12,u13,u14,u15,u16,.slice (some ⟨ba,oa,none⟩) n ca,.int .i64 (i:Int),u19,u20,u21,u22,u23,u24,u25],defers:=[]} w:=
      wpAnyH_take (i:=2) (oi:=⟨some 19,.indexAddr 22 (.tmp 17) (.tmp 18),0,"ref.go:176",#[⟨0,.data⟩,⟨1,.data⟩],none⟩) (v:=.pointer (some ⟨ba,oa+i*32,none⟩)) rfl (by kernel_rfl) (by kernel_rfl) (by kernel_rfl) (fun _ _ _ h=>hQ _ _ _ _ _ h) (Yields.yieldsIf (Or.inl ⟨by rfl,fun W=>by go_simp⟩)) hww t3
    have t1:wpAnyH Tryz.prog .any z26 Q (fun W:World=>W.rangeAt ba (oa+i*32) (z00 H)∧W.rangeAt bb (ob+i*32) (z00 K)∧Below w0.heap.size w0 W) 8 #[true,false,false,false,false,false,false,false,false] {tmps:=#[.slice (some ⟨ba,oa,none⟩) n ca,.slice (some ⟨bb,ob,none⟩) m cb,u2,u3,u4,.int .i64 (i:Int),u6,u7,u8,u9,u10,u11,u12,u13,u14,u15,u16,.slice (some ⟨ba,oa,none⟩) n ca,u18,u19,u20,u21,u22,u23,u24,u25],defers:=[]} w:=
      wpAnyH_take (i:=1) (oi:=⟨some 18,.move (.tmp 5),3,"ref.go:176",#[],none⟩) (v:=.int .i64 (i:Int)) rfl (by kernel_rfl) (by kernel_rfl) (by kernel_rfl) (fun _ _ _ h=>hQ _ _ _ _ _ h) (Yields.yieldsIf (Or.inl ⟨by rfl,fun W=>by go_simp⟩)) hww t2
    have t0:wpAnyH Tryz.prog .any z26 Q (fun W:World=>W.rangeAt ba (oa+i*32) (z00 H)∧W.rangeAt bb (ob+i*32) (z00 K)∧Below w0.heap.size w0 W) 9 #[false,false,false,false,false,false,false,false,false] {tmps:=#[.slice (some ⟨ba,oa,none⟩) n ca,.slice (some ⟨bb,ob,none⟩) m cb,u2,u3,u4,.int .i64 (i:Int),u6,u7,u8,u9,u10,u11,u12,u13,u14,u15,u16,u17,u18,u19,u20,u21,u22,u23,u24,u25],defers:=[]} w:=
      wpAnyH_take (i:=0) (oi:=⟨some 17,.move (.tmp 0),22,"ref.go:176",#[],none⟩) (v:=.slice (some ⟨ba,oa,none⟩) n ca) rfl (by kernel_rfl) (by kernel_rfl) (by kernel_rfl) (fun _ _ _ h=>hQ _ _ _ _ _ h) (Yields.yieldsIf (Or.inl ⟨by rfl,fun W=>by go_simp⟩)) hww t1
    exact t0
  exact wp_region_held_drew (S:=(fun W:World=>W.rangeAt ba (oa+i*32) (z00 H)∧W.rangeAt bb (ob+i*32) (z00 K)∧Below w0.heap.size w0 W)) (by kernel_rfl) hs0 (fun _=>k0 _ hs0)
set_option maxHeartbeats 1000000 in
theorem z2J (a b:Option Addr) (n m ca cb:Nat) (l k:List Int) (w:World) (hA:Flat w a n l) (hB:Flat w b m k) (hn:n≤1000000):
    Calls Tryz.prog 13 #[.slice a n ca,.slice b m cb] w fun e w'=>e=.returned (.bool (decide (l=k)))∧Below w.heap.size w w':=by
  by_cases hnm:n=m
  · subst hnm
    rcases Nat.eq_zero_or_pos n with h | h
    · subst h
      have hd:decide (l=k)=true:=by
        rw [List.eq_nil_of_length_eq_zero hA.1,List.eq_nil_of_length_eq_zero hB.1]
        rfl
      rw [hd]
      clear hA hB hd
      go_enter Tryz.func13,Tryz.ntmps13
      go_wp2
      refine wp_loop_rounds 1 ?_
      rw [rounds_succ]
      go_wp2
      go_ret
      exact ⟨rfl,Below.refl _ _⟩
    · obtain ⟨ba,oa,rfl,la,hca⟩:=hA.2.1 h
      obtain ⟨bb,ob,rfl,lb,hcb⟩:=hB.2.1 h
      have HC:Aside (Flat w (some ⟨ba,oa,none⟩) n l∧Flat w (some ⟨bb,ob,none⟩) n k∧n≤1000000):=⟨hA,hB,hn⟩
      clear hA hB hca hcb la lb hn
      obtain ⟨D,hD⟩:∃ D,D=decide (l=k):=⟨_,rfl⟩
      rw [← hD]
      have HD:Aside (D=decide (l=k)):=hD
      clear hD
      go_enter Tryz.func13,Tryz.ntmps13
      go_wp2
      go_loopg [5] n (fun g s5 wx=>∃ i:Nat,s5=.int .i64 i∧Aside (i+g=n∧Below w.heap.size w wx∧∀ j,j<i→HSH l j=HSH k j))
      case atStart=>exact ⟨0,rfl,by omega,Below.refl _ _,fun j hj=>by omega⟩
      case round=>
        obtain ⟨i,rfl,A⟩:=hrel
        cases gk with
        | zero=>
          obtain rfl:i=n:=by have:=A.out.1;omega
          have hlt:¬ (i:Int)<(i:Int):=by omega
          have hd:Aside (D=true):=by
            show D=true
            rw [HD.out,decide_eq_true_iff]
            exact zfC HC.out.1.1 HC.out.2.1.1 A.out.2.2
          clear HD HC
          go_wp2
          go_ret
          exact ⟨by rw [hd.out];rfl,A.out.2.1⟩
        | succ g=>
          obtain ⟨hig,hbel,hbef⟩:=A.out
          have hlt:(i:Int)<(n:Int):=by omega
          have r1:=(HC.out.1.below hbel).at (show i<n by omega)
          have r2:=(HC.out.2.1.below hbel).at (show i<n by omega)
          have l1:=z0S HC.out.1.1 (show i<n by omega)
          have l2:=z0S HC.out.2.1.1 (show i<n by omega)
          have E1:Aside (wrap64 ((i:Int)+1)=((i+1:Nat):Int)):=by have:=HC.out.2.2;show wrap64 ((i:Int)+1)=((i+1:Nat):Int);unfold wrap64;omega
          by_cases he:HSH l i=HSH k i
          · have B:Aside (i+1+g=n∧∀ j,j<i+1→HSH l j=HSH k j):=⟨by omega,fun j hj=>by
              by_cases e:j=i
              · rw [e];exact he
              · exact hbef j (by omega)⟩
            have hdf:(!decide (HSH l i=HSH k i))=false:=by rw [he];simp
            have Z:Aside (Below w.heap.size w wr):=hbel
            clear he hig hbel hbef A HD HC
            generalize HSH l i=H at *
            generalize HSH k i=K at *
            go_upto_region 6 with fail
            refine z4Y _ _ _ _ _ _ _ _ _ _ _ _ _ _ _ _ _ _ _ _ _ _ _ _ w ba oa n ca bb ob n cb i H K l1 l2 hlt hlt ⟨r1,r2,Z.out⟩ (fun _ _ _ _ _ h=>h) ?_
            rintro w1 ⟨_,_,q3⟩
            rw [hdf]
            clear r1 r2 l1 l2 hdf
            have Z2:Aside (Below w.heap.size w w1):=q3
            clear q3 Z
            have e1:=E1.out
            go_wp2
            go_roundg g
            case measure=>exact Nat.lt_succ_self _
            case rel=>exact ⟨i+1,by first | rfl | (rw [E1.out]),B.out.1,Z2.out,B.out.2⟩
          · have hd:Aside (D=false):=by
              show D=false
              rw [HD.out,decide_eq_false_iff_not]
              intro e
              rw [e] at he
              exact he rfl
            have hdf:(!decide (HSH l i=HSH k i))=true:=by simp [he]
            have Z:Aside (Below w.heap.size w wr):=hbel
            clear he hig hbel hbef A HD HC E1
            generalize HSH l i=H at *
            generalize HSH k i=K at *
            go_upto_region 6 with fail
            refine z4Y _ _ _ _ _ _ _ _ _ _ _ _ _ _ _ _ _ _ _ _ _ _ _ _ w ba oa n ca bb ob n cb i H K l1 l2 hlt hlt ⟨r1,r2,Z.out⟩ (fun _ _ _ _ _ h=>h) ?_
            rintro w1 ⟨_,_,q3⟩
            rw [hdf]
            clear r1 r2 l1 l2 hdf
            have Z2:Aside (Below w.heap.size w w1):=q3
            clear q3 Z
            go_wp2
            go_ret
            exact ⟨by rw [hd.out];rfl,Z2.out⟩
  · have hne:¬ (n:Int)=(m:Int):=by omega
    have hd:decide (l=k)=false:=by
      rw [decide_eq_false_iff_not]
      intro e
      rw [e] at hA
      have:=hA.1.symm.trans hB.1
      omega
    rw [hd]
    clear hA hB hd
    go_enter Tryz.func13,Tryz.ntmps13
    go_wp2
    go_ret
    exact ⟨rfl,Below.refl _ _⟩
end Go.Proofs.YthjeeblddipiiaaGreatDoor

namespace Go.Proofs.YthjeeblddipiiaaGreatDoor
open Go.RowKit
set_option maxRecDepth 100000
end Go.Proofs.YthjeeblddipiiaaGreatDoor

namespace Go.Proofs.YthjeeblddipiiaaGreatDoor
open Go.RowKit
set_option maxRecDepth 100000
theorem zb4 {w:World} {B n:Nat} {v:Value} {xs:List Value} (h:w.ownsRow B 32 32 v n xs):∃ a c,v=.slice a n c∧n≤c∧(0<n→∃ g,a=some ⟨g,0,none⟩):=by
  rcases h.2 with ⟨rfl,h0⟩ | ⟨g,cap,cur,rfl,_,_,h1,_⟩
  · subst h0
    exact ⟨none,0,rfl,Nat.le_refl _,fun h=>by omega⟩
  · exact ⟨_,_,rfl,h1,fun _=>⟨g,rfl⟩⟩
end Go.Proofs.YthjeeblddipiiaaGreatDoor

namespace Go.Proofs.YthjeeblddipiiaaGreatDoor
open Go.RowKit
set_option maxRecDepth 100000
theorem z1t {w w':World} {g o:Nat} {cs:List Value} (h:w.rangeAt g o cs) (hb:Below w.heap.size w w') (hg:g<w.heap.size):w'.rangeAt g o cs:=fun j v hv=>(hb.cell (p:=⟨g,o+j,none⟩) hg).trans (h j v hv)
theorem Flat.other {w:World} {b o n:Nat} {l:List Int} (h:Flat w (some ⟨b,o,none⟩) n l) {a:Addr} (ha:b≠a.block) (u:Value):Flat (w.setCell a u) (some ⟨b,o,none⟩) n l:=
  ⟨h.1,fun hn=>by
    obtain ⟨b',o',e,hl,hc⟩:=h.2.1 hn
    cases e
    exact ⟨b,o,rfl,Nat.lt_of_lt_of_le hl (KeepsWalks.setCell w a u).size,fun j hj=>(World.cell?_setCell_other w _ _ u (fun e=>ha (congrArg Addr.block e).symm)).trans (hc j hj)⟩,h.2.2⟩
theorem z19 {w:World} {B n:Nat} {a:Option Addr} {c:Nat} {l:List Int} (h:w.ownsRow B 32 32 (.slice a n c) n (z00 l)) (hr:∀ x∈l,0≤x∧x≤255):Flat w a n l:=by
  have hl:l.length=32*n:=by have:=h.1;simpa [z00,Nat.mul_comm] using this
  refine ⟨hl,fun hn=>?_,hr⟩
  rcases h.2 with ⟨e,h0⟩ | ⟨g,cap,cur,e,_,hg,_⟩
  · omega
  · cases e
    refine ⟨g,0,rfl,(Array.getElem?_eq_some_iff.1 hg).1,fun j hj=>?_⟩
    have:=h.cellAt j (by omega)
    rw [Nat.zero_add,this,z0z l j (by omega)]
theorem zew {w:World} {g n:Nat} {l:List Int} (h:Has w g (z00 l).toArray 32) (hl:l.length=32*n) (hr:∀ x∈l,0≤x∧x≤255):Flat w (some ⟨g,0,none⟩) n l:=
  ⟨hl,fun _=>⟨g,0,rfl,h.lt,fun j hj=>by rw [Nat.zero_add,h.cell,List.getElem?_toArray,z0z l j (by omega)]⟩,hr⟩
theorem zcG {w:World} {B n:Nat} {v:Value} {l:List Int} (h:w.ownsRow B 5 1 v n (z00 l)) (hr:∀ x∈l,0≤x∧x≤255):∃ a c,v=.slice a n c∧Bytes w a n l∧n≤c:=by
  obtain ⟨a,c,rfl⟩:∃ a c,v=.slice a n c:=by
    rcases h.2 with ⟨rfl,h0⟩ | ⟨g,cap,cur,rfl,_⟩
    · subst h0
      exact ⟨none,0,rfl⟩
    · exact ⟨_,_,rfl⟩
  exact ⟨a,c,rfl,z1k h hr⟩
theorem Bytes.take {w:World} {a:Option Addr} {n:Nat} {l:List Int} (h:Bytes w a n l) {m:Nat} (hm:m≤n):Bytes w a m (l.take m):=by
  refine ⟨by rw [List.length_take,h.1];omega,fun h0=>?_,fun x hx=>h.2.2 x (List.mem_of_mem_take hx)⟩
  obtain ⟨b,o,e,hb,hc⟩:=h.2.1 (by omega)
  refine ⟨b,o,e,hb,fun i hi=>?_⟩
  rw [hc i (by omega),List.getD_eq_getElem?_getD,List.getD_eq_getElem?_getD,List.getElem?_take,if_pos hi]
end Go.Proofs.YthjeeblddipiiaaGreatDoor

namespace Go.Proofs.YthjeeblddipiiaaGreatDoor
open Go.RowKit
set_option maxRecDepth 100000
def HAND (ss:List (Nat × Nat)) (l:List Int):Nat→Nat→Nat→List Int
  | 0=>fun _ _=>ZND
  | i+1=>MPUT (HAND ss l i) (ss.getD i (0,0)).1 (ss.getD i (0,0)).2 (HSH l i)
theorem z5H (v:Value) (N:Nat) (hv:∃ a' c',v=.slice a' N c') (a:Option Addr) (n c:Nat) (hn:n≠N) (w:World):Calls Tryz.prog 30 #[v,.slice a n c] w fun e w'=>e=.returned (.tuple #[.map none,.int .i64 70])∧w=w':=by
  obtain ⟨a',c',rfl⟩:=hv
  have h1:¬ (n:Int)=(N:Int):=by omega
  clear hn
  go_enter Tryz.func30,Tryz.ntmps30
  go_wp2
  go_ret2
  exact ⟨rfl,rfl⟩
def zha (w:World) (n:Nat) (M:Nat→Nat→List Int) (e:Ending) (w':World):Prop:=∃ b,e=.returned (.tuple #[.map (some b),.int .i64 0])∧SMAP w' b n M∧w.heap.size≤b∧Below w.heap.size w w'
theorem z2N {w w':World} {g o:Nat} {cs:List Value} (h:w.rangeAt g o cs) (hb:w'.heap[g]?=w.heap[g]?):w'.rangeAt g o cs:=fun j v hv=>(World.cell?_of_block (a:=⟨g,o+j,none⟩) hb).trans (h j v hv)
theorem z0P {w:World} {g:Nat} {l:List Int} {t:TypeId} (h:Has w g (z00 l).toArray t):w.rangeAt g 0 (z00 l):=fun j v hv=>by rw [Nat.zero_add,h.cell,List.getElem?_toArray];exact hv
set_option maxHeartbeats 2000000 in
theorem z75 (ss:List (Nat × Nat)) (hN:∀ s∈ss,Node s.1 s.2) (B n:Nat) (hss:ss.length=n) (hn:n≤1000) (v:Value) (a:Option Addr) (c:Nat) (l:List Int) (w:World) (hv:w.ownsRow B 23 1 v n (UCELLS (PLCS ss))) (hF:Flat w a n l):
    Calls Tryz.prog 30 #[v,.slice a n c] w (zha w n (HAND ss l n)):=by
  obtain ⟨ap,cp,rfl,hap⟩:=z0O hv
  have HA:Aside ((∀ s∈ss,Node s.1 s.2)∧ss.length=n∧n≤1000∧Flat w a n l∧(0<n→∃ g,ap=some ⟨g,0,none⟩∧g<w.heap.size)∧w.ownsRow B 23 1 (.slice ap n cp) n (UCELLS (PLCS ss))):=⟨hN,hss,hn,hF,fun h=>by obtain ⟨g,e,h1,_⟩:=hap h;exact ⟨g,e,h1⟩,hv⟩
  have M0:Aside (SMAP (w.alloc (.map #[] 0)) w.heap.size 0 (HAND ss l 0)∧Below w.heap.size w (w.alloc (.map #[] 0))):=⟨SMAP.made w,(Below.refl _ _).alloc (Nat.le_refl _) _⟩
  have hmk:(Instr.makeMap 77 none).run Tryz.prog w=.ok (.map (some w.heap.size)) (w.alloc (.map #[] 0)):=rfl
  clear hN hss hn hF hap hv
  go_enter Tryz.func30,Tryz.ntmps30
  go_wp2_with fail
  go_loopg [19] n (fun q s19 wx=>∃ i:Nat,s19=.int .i64 (i:Int)∧Aside (i+q=n∧Below w.heap.size w wx∧SMAP wx w.heap.size i (HAND ss l i)))
  case atStart=>exact ⟨0,rfl,by omega,M0.out.2,M0.out.1⟩
  case round=>
    obtain ⟨i,rfl,A⟩:=hrel
    clear M0
    cases gk with
    | zero=>
      obtain rfl:i=n:=by have:=A.out.1;omega
      have hlt:¬ (i:Int)<(i:Int):=by omega
      have R:Aside (SMAP wr w.heap.size i (HAND ss l i)∧Below w.heap.size w wr):=⟨A.out.2.2,A.out.2.1⟩
      clear A HA
      go_wp2
      go_ret2
      exact ⟨_,rfl,R.out.1,Nat.le_refl _,R.out.2⟩
    | succ q=>
      obtain ⟨a1,a2,a3⟩:=A.out
      obtain ⟨h1,h2,h3,h4,h5,h6⟩:=HA.out
      have hlt:(i:Int)<(n:Int):=by omega
      obtain ⟨gp,rfl,hgp⟩:=h5 (by omega)
      obtain ⟨gn,o,rfl,hgn,hcn⟩:=h4.2.1 (by omega)
      obtain ⟨⟨h,k⟩,hs⟩:∃ s,ss[i]?=some s:=⟨_,List.getElem?_eq_getElem (by omega)⟩
      have hNd:Node h k:=h1 (h,k) (List.mem_of_getElem? hs)
      have hcp:wr.cell? ⟨gp,i,none⟩=some (.int .u64 ((PLC h k:Nat):Int)):=by
        refine (a2.cell (p:=⟨gp,i,none⟩) hgp).trans ?_
        rw [h6.cellAt i (by omega)]
        simp [UCELLS,PLCS,hs]
      have hat:=(h4.below a2).at (show i<n by omega)
      have h32:=z0S h4.1 (show i<n by omega)
      have hnx:HAND ss l (i+1)=MPUT (HAND ss l i) h k (HSH l i):=by rw [HAND,List.getD_eq_getElem?_getD,hs];rfl
      have R:Aside (i+1+q=n∧Below w.heap.size w wr∧SMAP wr w.heap.size i (HAND ss l i)∧gn<w.heap.size∧Node h k∧HAND ss l (i+1)=MPUT (HAND ss l i) h k (HSH l i)∧n≤1000∧wr.rangeAt gn (o+i*32) (z00 (HSH l i))):=⟨by omega,a2,a3,hgn,hNd,hnx,h3,hat⟩
      have cS:=z6f h k hNd wr
      have E1:Aside (wrap64 ((i:Int)+1)=((i+1:Nat):Int)):=by show wrap64 ((i:Int)+1)=((i+1:Nat):Int);unfold wrap64;omega
      clear a1 a2 a3 h1 h2 h3 h4 h5 h6 hgp hgn hcn hs hNd hat hnx A HA
      generalize PLC h k=pl at *
      go_wp2_with fail
      refine cS.mono ?_
      rintro e w1 ⟨rfl,hb1⟩
      clear cS hcp
      have hbx:Below w1.heap.size w1 (w1.alloc (.cells #[.int .u8 (h:Int),.int .u64 (k:Int)] 81)):=(Below.refl _ _).alloc (Nat.le_refl _) _
      obtain ⟨b9,hb9⟩:∃ b9,b9=w1.heap.size:=⟨_,rfl⟩
      have R2:Aside (Below w.heap.size w (w1.alloc (.cells #[.int .u8 (h:Int),.int .u64 (k:Int)] 81))∧SMAP (w1.alloc (.cells #[.int .u8 (h:Int),.int .u64 (k:Int)] 81)) w.heap.size i (HAND ss l i)∧Has (w1.alloc (.cells #[.int .u8 (h:Int),.int .u64 (k:Int)] 81)) b9 #[.int .u8 (h:Int),.int .u64 (k:Int)] 81∧(w1.alloc (.cells #[.int .u8 (h:Int),.int .u64 (k:Int)] 81)).rangeAt gn (o+i*32) (z00 (HSH l i))∧w.heap.size<b9):=by
        obtain ⟨r1,r2,r3,r4,r5,r6,r7,r8⟩:=R.out
        have t1:=r2.trans (hb1.mono r2.size)
        refine ⟨t1.trans (hbx.mono t1.size),(r3.below hb1).below hbx,by rw [hb9];exact Has.new _ _ _,?_,?_⟩
        · exact z2N (z2N r8 (hb1.block gn (by have:=r2.size;omega))) (hbx.block gn (by have:=t1.size;omega))
        · rw [hb9]
          exact (r3.below hb1).lt
      go_upto_region 8 with fail
      rw [← hb9]
      clear hb1 hbx hb9
      generalize w1.alloc (.cells #[.int .u8 (h:Int),.int .u64 (k:Int)] 81)=w2 at *
      refine z7u _ _ _ _ _ _ _ _ _ _ _ _ _ _ _ _ _ _ _ _ _ _ _ _ _ _ _ _ _ _ _ _ _ _ w.heap.size b9 gn o n c i h k (HSH l i) h32 hlt (fun W=>Below w.heap.size w W∧SMAP W w.heap.size i (HAND ss l i)∧Has W b9 #[.int .u8 (h:Int),.int .u64 (k:Int)] 81∧W.rangeAt gn (o+i*32) (z00 (HSH l i))) (fun W=>Below w.heap.size w W∧SMAP W w.heap.size (i+1) (HAND ss l (i+1))∧Has W b9 #[.int .u8 (h:Int),.int .u64 (k:Int)] 81∧W.rangeAt gn (o+i*32) (z00 (HSH l i)))
        (fun W ⟨_,_,p,q⟩=>⟨p.cell 0,p.cell 1,q⟩) (fun W ⟨_,_,p,q⟩=>⟨p.cell 0,p.cell 1,q⟩) ?_ ⟨R2.out.1.drew,R2.out.2.1.at rfl,R2.out.2.2.1,z2N R2.out.2.2.2.1 rfl⟩ (fun _ _ _ _ _ h=>h) ?_
      · rintro W ⟨p1,p2,p3,p4⟩
        obtain ⟨r1,r2,r3,r4,r5,r6,r7,r8⟩:=R.out
        obtain ⟨w',q1,q2,q3⟩:=p2.store (h:=h) (k:=k) (by omega) (by have:=r5.1;omega) (by have:=r5.index_lt;omega) (HSH l i)
        have hb9':=R2.out.2.2.2.2
        refine ⟨w',q1,p1.grown q3 p1.size (fun k e=>by cases e;exact Nat.le_refl _),by rw [r6];exact q2,(q3.block b9 p3.lt (by simp;omega)).trans p3,z2N p4 (q3.block gn (by have:=p1.size;omega) (by simp;omega))⟩
      · rintro W ⟨p1,p2,p3,p4⟩
        have Z:Aside (i+1+q=n∧Below w.heap.size w W∧SMAP W w.heap.size (i+1) (HAND ss l (i+1))):=⟨R.out.1,p1,p2⟩
        clear p1 p2 p3 p4 R R2 h32
        have e1:=E1.out
        go_wp2
        go_roundg q
        case measure=>exact Nat.lt_succ_self _
        case rel=>exact ⟨i+1,by first | rfl | (rw [E1.out]),Z.out⟩
set_option maxHeartbeats 2000000 in
theorem za2 (mb n h h1 k:Nat) (d:Int) (M:Nat→Nat→List Int) (hh:h=h1+1) (hh2:h<200) (hk:2*k+1<2 ^ 64) (hn:n≤10000) (w:World) (hM:SMAP w mb n M) (hL:IsH (M h1 (2*k))) (hR:IsH (M h1 (2*k+1))) (hT:HX.Tabled w) (hmb:2<mb):
    Calls Tryz.prog 32 #[.map (some mb),.int .i64 d,.agg #[.int .u8 (h:Int),.int .u64 (k:Int)]] w fun e w'=>e=.returned (.tuple #[])∧SMAP w' mb (n+1) (MPUT M h k (z0L d (M h1 (2*k)) (M h1 (2*k+1))))∧w.grownBy w' (some mb):=by
  obtain ⟨L,hLe⟩:∃ L,M h1 (2*k)=L:=⟨_,rfl⟩
  obtain ⟨R,hRe⟩:∃ R,M h1 (2*k+1)=R:=⟨_,rfl⟩
  rw [hLe] at hL ⊢
  rw [hRe] at hR ⊢
  obtain ⟨k2,hk2⟩:∃ k2,2*k=k2:=⟨_,rfl⟩
  obtain ⟨k3,hk3⟩:∃ k3,k2+1=k3:=⟨_,rfl⟩
  have e1:IntKind.u8.wrap ((h:Int) - 1)=(h1:Int):=by simp [IntKind.wrap,IntKind.bits,IntKind.signed];omega
  have e2:IntKind.u64.wrap (2*(k:Int))=(k2:Int):=by rw [z0g];omega
  have e3:IntKind.u64.wrap ((k2:Int)+1)=(k3:Int):=by rw [z0g];omega
  have HA:Aside (h<200∧h1<200∧(k2<2 ^ 64∧k3<2 ^ 64)∧k<2 ^ 64∧n≤10000∧SMAP w mb n M∧M h1 k2=L∧M h1 k3=R∧IsH L∧IsH R∧HX.Tabled w∧2<mb):=⟨hh2,by omega,by omega,by omega,hn,hM,by rw [← hk2];exact hLe,by rw [← hk3,← hk2];exact hRe,hL,hR,hT,hmb⟩
  have l32:L.length=32:=hL.1
  have r32:R.length=32:=hR.1
  have LK:Aside (∀ W,Below w.heap.size w W→(Instr.lookup 77 (.map (some mb)) (.agg #[.int .u8 (h1:Int),.int .u64 (k2:Int)]) false).run Tryz.prog W=.ok (.agg (z00 L).toArray) W∧(Instr.lookup 77 (.map (some mb)) (.agg #[.int .u8 (h1:Int),.int .u64 (k3:Int)]) false).run Tryz.prog W=.ok (.agg (z00 R).toArray) W):=fun W hb=>by
    have h1':=(HA.out.2.2.2.2.2.1.below hb).look (h:=h1) (k:=k2) (by have:=HA.out;omega) (by have:=HA.out;omega)
    have h2':=(HA.out.2.2.2.2.2.1.below hb).look (h:=h1) (k:=k3) (by have:=HA.out;omega) (by have:=HA.out;omega)
    rw [HA.out.2.2.2.2.2.2.1] at h1'
    rw [HA.out.2.2.2.2.2.2.2.1] at h2'
    exact ⟨h1',h2'⟩
  clear hh hh2 hk hn hM hLe hRe hk2 hk3 hL hR hT hmb
  go_enter Tryz.func32,Tryz.ntmps32
  go_upto_region 1 with fail
  obtain ⟨b5,hb5⟩:∃ b5,b5=w.heap.size:=⟨_,rfl⟩
  have R1:Aside (Below w.heap.size w (w.alloc (.cells #[.int .u8 (h:Int),.int .u64 (k:Int)] 81))∧Has (w.alloc (.cells #[.int .u8 (h:Int),.int .u64 (k:Int)] 81)) b5 #[.int .u8 (h:Int),.int .u64 (k:Int)] 81∧w.heap.size≤b5):=⟨(Below.refl _ _).alloc (Nat.le_refl _) _,by rw [hb5];exact Has.new _ _ _,by rw [hb5];exact Nat.le_refl _⟩
  rw [← hb5]
  clear hb5
  generalize w.alloc (.cells #[.int .u8 (h:Int),.int .u64 (k:Int)] 81)=W1 at *
  have lk1:=(LK.out _ R1.out.1).1
  have hz0:W1.cell? ⟨b5,0,none⟩=some (.int .u8 (h:Int)):=R1.out.2.1.cell 0
  have hz1:W1.cell? ⟨b5,1,none⟩=some (.int .u64 (k:Int)):=R1.out.2.1.cell 1
  go_upto_region 2 with (refine wpList_store_row rfl 32 (.tmp 6) (.tmp 16) rfl _ _ rfl rfl 32 _ (Has.new W1 _ _) (z08 l32) (by simp [z00,l32]) (z0l L) ?_;rw [World.setRow_alloc_new])
  obtain ⟨b6,hb6⟩:∃ b6,b6=W1.heap.size:=⟨_,rfl⟩
  have R2:Aside (Below w.heap.size w (W1.alloc (.cells (z00 L).toArray 32))∧Has (W1.alloc (.cells (z00 L).toArray 32)) b5 #[.int .u8 (h:Int),.int .u64 (k:Int)] 81∧w.heap.size≤b5∧Has (W1.alloc (.cells (z00 L).toArray 32)) b6 (z00 L).toArray 32∧w.heap.size≤b6):=⟨R1.out.1.alloc R1.out.1.size _,R1.out.2.1.alloc _,R1.out.2.2,by rw [hb6];exact Has.new _ _ _,by rw [hb6];exact R1.out.1.size⟩
  rw [← hb6]
  clear hb6 lk1 hz0 hz1 R1
  generalize W1.alloc (.cells (z00 L).toArray 32)=W2 at *
  have lk2:=(LK.out _ R2.out.1).2
  have hz0:W2.cell? ⟨b5,0,none⟩=some (.int .u8 (h:Int)):=R2.out.2.1.cell 0
  have hz1:W2.cell? ⟨b5,1,none⟩=some (.int .u64 (k:Int)):=R2.out.2.1.cell 1
  go_upto_region 3 with (refine wpList_store_row rfl 32 (.tmp 7) (.tmp 26) rfl _ _ rfl rfl 32 _ (Has.new W2 _ _) (z08 r32) (by simp [z00,r32]) (z0l R) ?_;rw [World.setRow_alloc_new])
  obtain ⟨b7,hb7⟩:∃ b7,b7=W2.heap.size:=⟨_,rfl⟩
  have R3:Aside (Below w.heap.size w (W2.alloc (.cells (z00 R).toArray 32))∧Has (W2.alloc (.cells (z00 R).toArray 32)) b5 #[.int .u8 (h:Int),.int .u64 (k:Int)] 81∧w.heap.size≤b5∧Has (W2.alloc (.cells (z00 R).toArray 32)) b6 (z00 L).toArray 32∧w.heap.size≤b6∧Has (W2.alloc (.cells (z00 R).toArray 32)) b7 (z00 R).toArray 32∧w.heap.size≤b7):=⟨R2.out.1.alloc R2.out.1.size _,R2.out.2.1.alloc _,R2.out.2.2.1,R2.out.2.2.2.1.alloc _,R2.out.2.2.2.2,by rw [hb7];exact Has.new _ _ _,by rw [hb7];exact R2.out.1.size⟩
  rw [← hb7]
  clear hb7 lk2 hz0 hz1 R2
  generalize W2.alloc (.cells (z00 R).toArray 32)=W3 at *
  refine z96 _ _ _ _ _ _ _ _ _ _ _ _ _ _ _ _ _ _ _ _ _ _ _ _ _ _ _ _ _ mb b5 b6 b7 h k d L R l32 r32 (fun W=>Below w.heap.size w W∧Has W b5 #[.int .u8 (h:Int),.int .u64 (k:Int)] 81∧Has W b6 (z00 L).toArray 32∧Has W b7 (z00 R).toArray 32) (fun X W=>X=.agg (z00 (z0L d L R)).toArray∧Below w.heap.size w W∧Has W b5 #[.int .u8 (h:Int),.int .u64 (k:Int)] 81∧Has W b6 (z00 L).toArray 32∧Has W b7 (z00 R).toArray 32) (fun _ W=>SMAP W mb (n+1) (MPUT M h k (z0L d L R))∧w.grownBy W (some mb)∧Has W b5 #[.int .u8 (h:Int),.int .u64 (k:Int)] 81∧Has W b6 (z00 L).toArray 32∧Has W b7 (z00 R).toArray 32)
    (fun W ⟨_,p,q,r⟩=>⟨p.cell 0,p.cell 1,z0P q,z0P r⟩) (fun X W ⟨_,_,p,q,r⟩=>⟨p.cell 0,p.cell 1,z0P q,z0P r⟩) (fun X W ⟨_,_,p,q,r⟩=>⟨p.cell 0,p.cell 1,z0P q,z0P r⟩) ?_ ?_ ⟨R3.out.1.drew,R3.out.2.1,R3.out.2.2.2.1,R3.out.2.2.2.2.2.1⟩ (fun _ _ _ _ _ h=>h) ?_
  · rintro W ⟨p1,p2,p3,p4⟩
    obtain ⟨a1,a2,a3,a4,a5,a6,a7,a8,a9,a10,a11,a12⟩:=HA.out
    refine (z8h d L R a9 a10 W (a11.below p1)).mono ?_
    rintro e w' ⟨rfl,hb⟩
    exact ⟨_,rfl,rfl,p1.trans (hb.mono p1.size),p2.keep hb,p3.keep hb,p4.keep hb⟩
  · rintro X W ⟨rfl,p1,p2,p3,p4⟩
    obtain ⟨a1,a2,a3,a4,a5,a6,a7,a8,a9,a10,a11,a12⟩:=HA.out
    have hml:=a6.lt
    have r:=R3.out
    obtain ⟨w',q1,q2,q3⟩:=(a6.below p1).store (h:=h) (k:=k) (by omega) (by omega) a4 (z0L d L R)
    refine ⟨w',q1,q2,⟨q3.os.trans p1.os,q3.tape.trans p1.tape,q3.output.trans p1.output,Nat.le_trans p1.size q3.size,fun j hj hne=>(q3.block j (by have:=p1.size;omega) hne).trans (p1.block j hj)⟩,(q3.block b5 p2.lt (by simp;omega)).trans p2,(q3.block b6 p3.lt (by simp;omega)).trans p3,(q3.block b7 p4.lt (by simp;omega)).trans p4⟩
  · rintro X W ⟨p1,p2,p3,p4,p5⟩
    have Z:Aside (SMAP W mb (n+1) (MPUT M h k (z0L d L R))∧w.grownBy W (some mb)):=⟨p1,p2⟩
    clear p1 p2 p3 p4 p5 R3 LK HA
    go_wp2
    exact bodyPost_end (v:=.tuple #[]) (by simp [results,Tryz.f32]) rfl ⟨rfl,Z.out⟩
end Go.Proofs.YthjeeblddipiiaaGreatDoor
