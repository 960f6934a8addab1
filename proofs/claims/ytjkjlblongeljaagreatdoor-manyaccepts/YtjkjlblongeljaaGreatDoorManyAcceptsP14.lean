/- Texts of ManyAccepts, one behind the other: ProofSame, CarryEqual, ManyClashSame. -/
import Derived.Test.YtjkjlblongeljaaGreatDoorManyAcceptsP11
namespace Go.Proofs.YtjkjlblongeljaaGreatDoor
open Go.RowKit
set_option maxRecDepth 100000
theorem z9J {l k:List Int} {n:Nat} (hl:l.length=32*n) (hk:k.length=32*n) (h:∀ i,i<n→HSH l i=HSH k i):l=k:=by
  have e:∀ i,i≤n→l.take (32*i)=k.take (32*i):=by
    intro i
    induction i with
    | zero=>intro _;simp
    | succ i ih=>intro hi;rw [z5c,z5c,ih (by omega),h i (by omega)]
  have:=e n (Nat.le_refl _)
  rwa [List.take_of_length_le (by omega),List.take_of_length_le (by omega)] at this
def z1U:Array Oper:=#[⟨some 17,.move (.tmp 0),22,"ref.go:176",#[],none⟩,⟨some 18,.move (.tmp 5),3,"ref.go:176",#[],none⟩,⟨some 19,.indexAddr 22 (.tmp 17) (.tmp 18),0,"ref.go:176",#[⟨0,.data⟩,⟨1,.data⟩],none⟩,⟨some 20,.load 35 (.tmp 19),35,"ref.go:176",#[⟨2,.data⟩],none⟩,⟨some 21,.move (.tmp 1),22,"ref.go:176",#[],none⟩,⟨some 22,.move (.tmp 5),3,"ref.go:176",#[],none⟩,⟨some 23,.indexAddr 22 (.tmp 21) (.tmp 22),0,"ref.go:176",#[⟨4,.data⟩,⟨5,.data⟩],none⟩,⟨some 24,.load 35 (.tmp 23),35,"ref.go:176",#[⟨6,.data⟩],none⟩,⟨some 25,.binOp .neq 35 (.tmp 20) (.tmp 24) 35,4,"ref.go:176",#[⟨3,.data⟩,⟨7,.data⟩],none⟩]
set_option maxHeartbeats 2000000 in
theorem z4U {Q:Exit→Act→World→Prop} (u2 u3 u4 u6 u7 u8 u9 u10 u11 u12 u13 u14 u15 u16 u17 u18 u19 u20 u21 u22 u23 u24 u25:Value) (W:World) (w0:World) (ba oa n ca bb ob m cb i:Nat) (H K:List Int) (hH:H.length=32) (hK:K.length=32) (b1:(i:Int)<(n:Int)) (b2:(i:Int)<(m:Int)) (hS:(fun W:World=>W.rangeAt ba (oa+i*32) (z00 H)∧W.rangeAt bb (ob+i*32) (z00 K)∧Below w0.heap.size w0 W) W) (hQ:∀ c (a:Act) (t:Tmp) (v:Value) w,Q (.panic c) (a.put (some t) v) w→Q (.panic c) a w)
    (h:∀ w,(fun W:World=>W.rangeAt ba (oa+i*32) (z00 H)∧W.rangeAt bb (ob+i*32) (z00 K)∧Below w0.heap.size w0 W) w→Q .normal {tmps:=#[.slice (some ⟨ba,oa,none⟩) n ca,.slice (some ⟨bb,ob,none⟩) m cb,u2,u3,u4,.int .i64 (i:Int),u6,u7,u8,u9,u10,u11,u12,u13,u14,u15,u16,.slice (some ⟨ba,oa,none⟩) n ca,.int .i64 (i:Int),.pointer (some ⟨ba,oa+i*32,none⟩),.agg (z00 H).toArray,.slice (some ⟨bb,ob,none⟩) m cb,.int .i64 (i:Int),.pointer (some ⟨bb,ob+i*32,none⟩),.agg (z00 K).toArray,.bool (!decide (H=K))],defers:=[]} w):(Code.region 6 z1U true).wp Tryz.prog Q {tmps:=#[.slice (some ⟨ba,oa,none⟩) n ca,.slice (some ⟨bb,ob,none⟩) m cb,u2,u3,u4,.int .i64 (i:Int),u6,u7,u8,u9,u10,u11,u12,u13,u14,u15,u16,u17,u18,u19,u20,u21,u22,u23,u24,u25],defers:=[]} W:=by
  have hs0:(fun W:World=>W.rangeAt ba (oa+i*32) (z00 H)∧W.rangeAt bb (ob+i*32) (z00 K)∧Below w0.heap.size w0 W) W.drew:=⟨hS.1,hS.2.1,hS.2.2.drew⟩
  have k0:∀ w,(fun W:World=>W.rangeAt ba (oa+i*32) (z00 H)∧W.rangeAt bb (ob+i*32) (z00 K)∧Below w0.heap.size w0 W) w→wpAnyH Tryz.prog .any z1U Q (fun W:World=>W.rangeAt ba (oa+i*32) (z00 H)∧W.rangeAt bb (ob+i*32) (z00 K)∧Below w0.heap.size w0 W) 9 #[false,false,false,false,false,false,false,false,false] {tmps:=#[.slice (some ⟨ba,oa,none⟩) n ca,.slice (some ⟨bb,ob,none⟩) m cb,u2,u3,u4,.int .i64 (i:Int),u6,u7,u8,u9,u10,u11,u12,u13,u14,u15,u16,u17,u18,u19,u20,u21,u22,u23,u24,u25],defers:=[]} w:=fun w hw=>by
    have hww:(fun W:World=>W.rangeAt ba (oa+i*32) (z00 H)∧W.rangeAt bb (ob+i*32) (z00 K)∧Below w0.heap.size w0 W) w:=hw
    have last:wpAnyH Tryz.prog .any z1U Q (fun W:World=>W.rangeAt ba (oa+i*32) (z00 H)∧W.rangeAt bb (ob+i*32) (z00 K)∧Below w0.heap.size w0 W) 0 #[true,true,true,true,true,true,true,true,true] {tmps:=#[.slice (some ⟨ba,oa,none⟩) n ca,.slice (some ⟨bb,ob,none⟩) m cb,u2,u3,u4,.int .i64 (i:Int),u6,u7,u8,u9,u10,u11,u12,u13,u14,u15,u16,.slice (some ⟨ba,oa,none⟩) n ca,.int .i64 (i:Int),.pointer (some ⟨ba,oa+i*32,none⟩),.agg (z00 H).toArray,.slice (some ⟨bb,ob,none⟩) m cb,.int .i64 (i:Int),.pointer (some ⟨bb,ob+i*32,none⟩),.agg (z00 K).toArray,.bool (!decide (H=K))],defers:=[]} w:=wpAnyH_done (by kernel_rfl) (h w hw) _
    have t8:wpAnyH Tryz.prog .any z1U Q (fun W:World=>W.rangeAt ba (oa+i*32) (z00 H)∧W.rangeAt bb (ob+i*32) (z00 K)∧Below w0.heap.size w0 W) 1 #[true,true,true,true,true,true,true,true,false] {tmps:=#[.slice (some ⟨ba,oa,none⟩) n ca,.slice (some ⟨bb,ob,none⟩) m cb,u2,u3,u4,.int .i64 (i:Int),u6,u7,u8,u9,u10,u11,u12,u13,u14,u15,u16,.slice (some ⟨ba,oa,none⟩) n ca,.int .i64 (i:Int),.pointer (some ⟨ba,oa+i*32,none⟩),.agg (z00 H).toArray,.slice (some ⟨bb,ob,none⟩) m cb,.int .i64 (i:Int),.pointer (some ⟨bb,ob+i*32,none⟩),.agg (z00 K).toArray,u25],defers:=[]} w:=
      wpAnyH_take (i:=8) (oi:=⟨some 25,.binOp .neq 35 (.tmp 20) (.tmp 24) 35,4,"ref.go:176",#[⟨3,.data⟩,⟨7,.data⟩],none⟩) (v:=.bool (!decide (H=K))) rfl (by kernel_rfl) (by kernel_rfl) (by kernel_rfl) (fun _ _ _ h=>hQ _ _ _ _ _ h) (Yields.yieldsIf (Or.inl ⟨by rfl,fun W=>z09 (z5D hH hK _ _ W)⟩)) hww last
    have t7:wpAnyH Tryz.prog .any z1U Q (fun W:World=>W.rangeAt ba (oa+i*32) (z00 H)∧W.rangeAt bb (ob+i*32) (z00 K)∧Below w0.heap.size w0 W) 2 #[true,true,true,true,true,true,true,false,false] {tmps:=#[.slice (some ⟨ba,oa,none⟩) n ca,.slice (some ⟨bb,ob,none⟩) m cb,u2,u3,u4,.int .i64 (i:Int),u6,u7,u8,u9,u10,u11,u12,u13,u14,u15,u16,.slice (some ⟨ba,oa,none⟩) n ca,.int .i64 (i:Int),.pointer (some ⟨ba,oa+i*32,none⟩),.agg (z00 H).toArray,.slice (some ⟨bb,ob,none⟩) m cb,.int .i64 (i:Int),.pointer (some ⟨bb,ob+i*32,none⟩),u24,u25],defers:=[]} w:=
      wpAnyH_take (i:=7) (oi:=⟨some 24,.load 35 (.tmp 23),35,"ref.go:176",#[⟨6,.data⟩],none⟩) (v:=.agg (z00 K).toArray) rfl (by kernel_rfl) (by kernel_rfl) (by kernel_rfl) (fun _ _ _ h=>hQ _ _ _ _ _ h) (yieldsIf_load_mid (by rfl) 35 (.tmp 23) rfl bb (ob+i*32) rfl (z00 K) _ (fun w h=>h.2.1) Tryz.underlying35 rfl (z0l hK)) hww t8
    have t6:wpAnyH Tryz.prog .any z1U Q (fun W:World=>W.rangeAt ba (oa+i*32) (z00 H)∧W.rangeAt bb (ob+i*32) (z00 K)∧Below w0.heap.size w0 W) 3 #[true,true,true,true,true,true,false,false,false] {tmps:=#[.slice (some ⟨ba,oa,none⟩) n ca,.slice (some ⟨bb,ob,none⟩) m cb,u2,u3,u4,.int .i64 (i:Int),u6,u7,u8,u9,u10,u11,u12,u13,u14,u15,u16,.slice (some ⟨ba,oa,none⟩) n ca,.int .i64 (i:Int),.pointer (some ⟨ba,oa+i*32,none⟩),.agg (z00 H).toArray,.slice (some ⟨bb,ob,none⟩) m cb,.int .i64 (i:Int),u23,u24,u25],defers:=[]} w:=
      wpAnyH_take (i:=6) (oi:=⟨some 23,.indexAddr 22 (.tmp 21) (.tmp 22),0,"ref.go:176",#[⟨4,.data⟩,⟨5,.data⟩],none⟩) (v:=.pointer (some ⟨bb,ob+i*32,none⟩)) rfl (by kernel_rfl) (by kernel_rfl) (by kernel_rfl) (fun _ _ _ h=>hQ _ _ _ _ _ h) (Yields.yieldsIf (Or.inl ⟨by rfl,fun W=>by go_simp⟩)) hww t7
    have t5:wpAnyH Tryz.prog .any z1U Q (fun W:World=>W.rangeAt ba (oa+i*32) (z00 H)∧W.rangeAt bb (ob+i*32) (z00 K)∧Below w0.heap.size w0 W) 4 #[true,true,true,true,true,false,false,false,false] {tmps:=#[.slice (some ⟨ba,oa,none⟩) n ca,.slice (some ⟨bb,ob,none⟩) m cb,u2,u3,u4,.int .i64 (i:Int),u6,u7,u8,u9,u10,u11,u12,u13,u14,u15,u16,.slice (some ⟨ba,oa,none⟩) n ca,.int .i64 (i:Int),.pointer (some ⟨ba,oa+i*32,none⟩),.agg (z00 H).toArray,.slice (some ⟨bb,ob,none⟩) m cb,u22,u23,u24,u25],defers:=[]} w:=
      wpAnyH_take (i:=5) (oi:=⟨some 22,.move (.tmp 5),3,"ref.go:176",#[],none⟩) (v:=.int .i64 (i:Int)) rfl (by kernel_rfl) (by kernel_rfl) (by kernel_rfl) (fun _ _ _ h=>hQ _ _ _ _ _ h) (Yields.yieldsIf (Or.inl ⟨by rfl,fun W=>by go_simp⟩)) hww t6
    have t4:wpAnyH Tryz.prog .any z1U Q (fun W:World=>W.rangeAt ba (oa+i*32) (z00 H)∧W.rangeAt bb (ob+i*32) (z00 K)∧Below w0.heap.size w0 W) 5 #[true,true,true,true,false,false,false,false,false] {tmps:=#[.slice (some ⟨ba,oa,none⟩) n ca,.slice (some ⟨bb,ob,none⟩) m cb,u2,u3,u4,.int .i64 (i:Int),u6,u7,u8,u9,u10,u11,u12,u13,u14,u15,u16,.slice (some ⟨ba,oa,none⟩) n ca,.int .i64 (i:Int),.pointer (some ⟨ba,oa+i*32,none⟩),.agg (z00 H).toArray,u21,u22,u23,u24,u25],defers:=[]} w:=
      wpAnyH_take (i:=4) (oi:=⟨some 21,.move (.tmp 1),22,"ref.go:176",#[],none⟩) (v:=.slice (some ⟨bb,ob,none⟩) m cb) rfl (by kernel_rfl) (by kernel_rfl) (by kernel_rfl) (fun _ _ _ h=>hQ _ _ _ _ _ h) (Yields.yieldsIf (Or.inl ⟨by rfl,fun W=>by go_simp⟩)) hww t5
    have t3:wpAnyH Tryz.prog .any z1U Q (fun W:World=>W.rangeAt ba (oa+i*32) (z00 H)∧W.rangeAt bb (ob+i*32) (z00 K)∧Below w0.heap.size w0 W) 6 #[true,true,true,false,false,false,false,false,false] {tmps:=#[.slice (some ⟨ba,oa,none⟩) n ca,.slice (some ⟨bb,ob,none⟩) m cb,u2,u3,u4,.int .i64 (i:Int),u6,u7,u8,u9,u10,u11,u12,u13,u14,u15,u16,.slice (some ⟨ba,oa,none⟩) n ca,.int .i64 (i:Int),.pointer (some ⟨ba,oa+i*32,none⟩),u20,u21,u22,u23,u24,u25],defers:=[]} w:=
      wpAnyH_take (i:=3) (oi:=⟨some 20,.load 35 (.tmp 19),35,"ref.go:176",#[⟨2,.data⟩],none⟩) (v:=.agg (z00 H).toArray) rfl (by kernel_rfl) (by kernel_rfl) (by kernel_rfl) (fun _ _ _ h=>hQ _ _ _ _ _ h) (yieldsIf_load_mid (by rfl) 35 (.tmp 19) rfl ba (oa+i*32) rfl (z00 H) _ (fun w h=>h.1) Tryz.underlying35 rfl (z0l hH)) hww t4
    have t2:wpAnyH Tryz.prog .any z1U Q (fun W:World=>W.rangeAt ba (oa+i*32) (z00 H)∧W.rangeAt bb (ob+i*32) (z00 K)∧Below w0.heap.size w0 W) 7 #[true,true,false,false,false,false,false,false,false] {tmps:=#[.slice (some ⟨ba,oa,none⟩) n ca,.slice (some ⟨bb,ob,none⟩) m cb,u2,u3,u4,.int .i64 (i:Int),u6,u7,u8,u9,u10,u11,u12,u13,u14,u15,u16,.slice (some ⟨ba,oa,none⟩) n ca,.int .i64 (i:Int),u19,u20,u21,u22,u23,u24,u25],defers:=[]} w:=
      wpAnyH_take (i:=2) (oi:=⟨some 19,.indexAddr 22 (.tmp 17) (.tmp 18),0,"ref.go:176",#[⟨0,.data⟩,⟨1,.data⟩],none⟩) (v:=.pointer (some ⟨ba,oa+i*32,none⟩)) rfl (by kernel_rfl) (by kernel_rfl) (by kernel_rfl) (fun _ _ _ h=>hQ _ _ _ _ _ h) (Yields.yieldsIf (Or.inl ⟨by rfl,fun W=>by go_simp⟩)) hww t3
    have t1:wpAnyH Tryz.prog .any z1U Q (fun W:World=>W.rangeAt ba (oa+i*32) (z00 H)∧W.rangeAt bb (ob+i*32) (z00 K)∧Below w0.heap.size w0 W) 8 #[true,false,false,false,false,false,false,false,false] {tmps:=#[.slice (some ⟨ba,oa,none⟩) n ca,.slice (some ⟨bb,ob,none⟩) m cb,u2,u3,u4,.int .i64 (i:Int),u6,u7,u8,u9,u10,u11,u12,u13,u14,u15,u16,.slice (some ⟨ba,oa,none⟩) n ca,u18,u19,u20,u21,u22,u23,u24,u25],defers:=[]} w:=
      wpAnyH_take (i:=1) (oi:=⟨some 18,.move (.tmp 5),3,"ref.go:176",#[],none⟩) (v:=.int .i64 (i:Int)) rfl (by kernel_rfl) (by kernel_rfl) (by kernel_rfl) (fun _ _ _ h=>hQ _ _ _ _ _ h) (Yields.yieldsIf (Or.inl ⟨by rfl,fun W=>by go_simp⟩)) hww t2
    have t0:wpAnyH Tryz.prog .any z1U Q (fun W:World=>W.rangeAt ba (oa+i*32) (z00 H)∧W.rangeAt bb (ob+i*32) (z00 K)∧Below w0.heap.size w0 W) 9 #[false,false,false,false,false,false,false,false,false] {tmps:=#[.slice (some ⟨ba,oa,none⟩) n ca,.slice (some ⟨bb,ob,none⟩) m cb,u2,u3,u4,.int .i64 (i:Int),u6,u7,u8,u9,u10,u11,u12,u13,u14,u15,u16,u17,u18,u19,u20,u21,u22,u23,u24,u25],defers:=[]} w:=
      wpAnyH_take (i:=0) (oi:=⟨some 17,.move (.tmp 0),22,"ref.go:176",#[],none⟩) (v:=.slice (some ⟨ba,oa,none⟩) n ca) rfl (by kernel_rfl) (by kernel_rfl) (by kernel_rfl) (fun _ _ _ h=>hQ _ _ _ _ _ h) (Yields.yieldsIf (Or.inl ⟨by rfl,fun W=>by go_simp⟩)) hww t1
    exact t0
  exact wp_region_held_drew (S:=(fun W:World=>W.rangeAt ba (oa+i*32) (z00 H)∧W.rangeAt bb (ob+i*32) (z00 K)∧Below w0.heap.size w0 W)) (by kernel_rfl) hs0 (fun _=>k0 _ hs0)
set_option maxHeartbeats 1000000 in
theorem z74 (a b:Option Addr) (n m ca cb:Nat) (l k:List Int) (w:World) (hA:Flat w a n l) (hB:Flat w b m k) (hn:n≤1000000):
    Calls Tryz.prog 43 #[.slice a n ca,.slice b m cb] w fun e w'=>e=.returned (.bool (decide (l=k)))∧Below w.heap.size w w':=by
  by_cases hnm:n=m
  · subst hnm
    rcases Nat.eq_zero_or_pos n with h | h
    · subst h
      have hd:decide (l=k)=true:=by
        rw [List.eq_nil_of_length_eq_zero hA.1,List.eq_nil_of_length_eq_zero hB.1]
        rfl
      rw [hd]
      clear hA hB hd
      go_enter Tryz.func43,Tryz.ntmps43
      go_wp2
      refine wp_loop_rounds 1 ?_
      rw [rounds_succ]
      go_wp2
      go_ret
      exact ⟨rfl,Below.refl _ _⟩
    · obtain ⟨ba,oa,rfl,la,hca⟩:=hA.2.1 h
      obtain ⟨bb,ob,rfl,lb,hcb⟩:=hB.2.1 h
      have HC:Aside (Flat w (some ⟨ba,oa,none⟩) n l∧Flat w (some ⟨bb,ob,none⟩) n k∧n≤1000000):=⟨hA,hB,hn⟩
      clear hA hB hca hcb la lb hn
      obtain ⟨D,hD⟩:∃ D,D=decide (l=k):=⟨_,rfl⟩
      rw [← hD]
      have HD:Aside (D=decide (l=k)):=hD
      clear hD
      go_enter Tryz.func43,Tryz.ntmps43
      go_wp2
      go_loopg [5] n (fun g s5 wx=>∃ i:Nat,s5=.int .i64 i∧Aside (i+g=n∧Below w.heap.size w wx∧∀ j,j<i→HSH l j=HSH k j))
      case atStart=>exact ⟨0,rfl,by omega,Below.refl _ _,fun j hj=>by omega⟩
      case round=>
        obtain ⟨i,rfl,A⟩:=hrel
        cases gk with
        | zero=>
          obtain rfl:i=n:=by have:=A.out.1;omega
          have hlt:¬ (i:Int)<(i:Int):=by omega
          have hd:Aside (D=true):=by
            show D=true
            rw [HD.out,decide_eq_true_iff]
            exact z9J HC.out.1.1 HC.out.2.1.1 A.out.2.2
          clear HD HC
          go_wp2
          go_ret
          exact ⟨by rw [hd.out];rfl,A.out.2.1⟩
        | succ g=>
          obtain ⟨hig,hbel,hbef⟩:=A.out
          have hlt:(i:Int)<(n:Int):=by omega
          have r1:=(HC.out.1.below hbel).at (show i<n by omega)
          have r2:=(HC.out.2.1.below hbel).at (show i<n by omega)
          have l1:=z0w HC.out.1.1 (show i<n by omega)
          have l2:=z0w HC.out.2.1.1 (show i<n by omega)
          have E1:Aside (wrap64 ((i:Int)+1)=((i+1:Nat):Int)):=by have:=HC.out.2.2;show wrap64 ((i:Int)+1)=((i+1:Nat):Int);unfold wrap64;omega
          by_cases he:HSH l i=HSH k i
          · have B:Aside (i+1+g=n∧∀ j,j<i+1→HSH l j=HSH k j):=⟨by omega,fun j hj=>by
              by_cases e:j=i
              · rw [e];exact he
              · exact hbef j (by omega)⟩
            have hdf:(!decide (HSH l i=HSH k i))=false:=by rw [he];simp
            have Z:Aside (Below w.heap.size w wr):=hbel
            clear he hig hbel hbef A HD HC
            generalize HSH l i=H at *
            generalize HSH k i=K at *
            go_upto_region 6 with fail
            refine z4U _ _ _ _ _ _ _ _ _ _ _ _ _ _ _ _ _ _ _ _ _ _ _ _ w ba oa n ca bb ob n cb i H K l1 l2 hlt hlt ⟨r1,r2,Z.out⟩ (fun _ _ _ _ _ h=>h) ?_
            rintro w1 ⟨_,_,q3⟩
            rw [hdf]
            clear r1 r2 l1 l2 hdf
            have Z2:Aside (Below w.heap.size w w1):=q3
            clear q3 Z
            have e1:=E1.out
            go_wp2
            go_roundg g
            case measure=>exact Nat.lt_succ_self _
            case rel=>exact ⟨i+1,by first | rfl | (rw [E1.out]),B.out.1,Z2.out,B.out.2⟩
          · have hd:Aside (D=false):=by
              show D=false
              rw [HD.out,decide_eq_false_iff_not]
              intro e
              rw [e] at he
              exact he rfl
            have hdf:(!decide (HSH l i=HSH k i))=true:=by simp [he]
            have Z:Aside (Below w.heap.size w wr):=hbel
            clear he hig hbel hbef A HD HC E1
            generalize HSH l i=H at *
            generalize HSH k i=K at *
            go_upto_region 6 with fail
            refine z4U _ _ _ _ _ _ _ _ _ _ _ _ _ _ _ _ _ _ _ _ _ _ _ _ w ba oa n ca bb ob n cb i H K l1 l2 hlt hlt ⟨r1,r2,Z.out⟩ (fun _ _ _ _ _ h=>h) ?_
            rintro w1 ⟨_,_,q3⟩
            rw [hdf]
            clear r1 r2 l1 l2 hdf
            have Z2:Aside (Below w.heap.size w w1):=q3
            clear q3 Z
            go_wp2
            go_ret
            exact ⟨by rw [hd.out];rfl,Z2.out⟩
  · have hne:¬ (n:Int)=(m:Int):=by omega
    have hd:decide (l=k)=false:=by
      rw [decide_eq_false_iff_not]
      intro e
      rw [e] at hA
      have:=hA.1.symm.trans hB.1
      omega
    rw [hd]
    clear hA hB hd
    go_enter Tryz.func43,Tryz.ntmps43
    go_wp2
    go_ret
    exact ⟨rfl,Below.refl _ _⟩
end Go.Proofs.YtjkjlblongeljaaGreatDoor

namespace Go.Proofs.YtjkjlblongeljaaGreatDoor
open Go.RowKit
set_option maxRecDepth 100000
def z1V:Array Oper:=#[⟨some 16,.move (.tmp 0),22,"slices.go:25",#[],none⟩,⟨some 17,.move (.tmp 5),3,"slices.go:25",#[],none⟩,⟨some 18,.indexAddr 22 (.tmp 16) (.tmp 17),0,"slices.go:25",#[⟨0,.data⟩,⟨1,.data⟩],none⟩,⟨some 19,.load 35 (.tmp 18),35,"slices.go:25",#[⟨2,.data⟩],none⟩,⟨some 20,.move (.tmp 1),22,"slices.go:25",#[],none⟩,⟨some 21,.move (.tmp 5),3,"slices.go:25",#[],none⟩,⟨some 22,.indexAddr 22 (.tmp 20) (.tmp 21),0,"slices.go:25",#[⟨4,.data⟩,⟨5,.data⟩],none⟩,⟨some 23,.load 35 (.tmp 22),35,"slices.go:25",#[⟨6,.data⟩],none⟩,⟨some 24,.binOp .neq 35 (.tmp 19) (.tmp 23) 35,4,"slices.go:25",#[⟨3,.data⟩,⟨7,.data⟩],none⟩]
set_option maxHeartbeats 2000000 in
theorem z4l {Q:Exit→Act→World→Prop} (u2 u3 u4 u6 u7 u8 u9 u10 u11 u12 u13 u14 u15 u16 u17 u18 u19 u20 u21 u22 u23 u24 u25:Value) (W:World) (w0:World) (ba oa n ca bb ob m cb i:Nat) (H K:List Int) (hH:H.length=32) (hK:K.length=32) (b1:(i:Int)<(n:Int)) (b2:(i:Int)<(m:Int)) (hS:(fun W:World=>W.rangeAt ba (oa+i*32) (z00 H)∧W.rangeAt bb (ob+i*32) (z00 K)∧Below w0.heap.size w0 W) W) (hQ:∀ c (a:Act) (t:Tmp) (v:Value) w,Q (.panic c) (a.put (some t) v) w→Q (.panic c) a w)
    (h:∀ w,(fun W:World=>W.rangeAt ba (oa+i*32) (z00 H)∧W.rangeAt bb (ob+i*32) (z00 K)∧Below w0.heap.size w0 W) w→Q .normal {tmps:=#[.slice (some ⟨ba,oa,none⟩) n ca,.slice (some ⟨bb,ob,none⟩) m cb,u2,u3,u4,.int .i64 (i:Int),u6,u7,u8,u9,u10,u11,u12,u13,u14,u15,.slice (some ⟨ba,oa,none⟩) n ca,.int .i64 (i:Int),.pointer (some ⟨ba,oa+i*32,none⟩),.agg (z00 H).toArray,.slice (some ⟨bb,ob,none⟩) m cb,.int .i64 (i:Int),.pointer (some ⟨bb,ob+i*32,none⟩),.agg (z00 K).toArray,.bool (!decide (H=K)),u25],defers:=[]} w):(Code.region 6 z1V true).wp Tryz.prog Q {tmps:=#[.slice (some ⟨ba,oa,none⟩) n ca,.slice (some ⟨bb,ob,none⟩) m cb,u2,u3,u4,.int .i64 (i:Int),u6,u7,u8,u9,u10,u11,u12,u13,u14,u15,u16,u17,u18,u19,u20,u21,u22,u23,u24,u25],defers:=[]} W:=by
  have hs0:(fun W:World=>W.rangeAt ba (oa+i*32) (z00 H)∧W.rangeAt bb (ob+i*32) (z00 K)∧Below w0.heap.size w0 W) W.drew:=⟨hS.1,hS.2.1,hS.2.2.drew⟩
  have k0:∀ w,(fun W:World=>W.rangeAt ba (oa+i*32) (z00 H)∧W.rangeAt bb (ob+i*32) (z00 K)∧Below w0.heap.size w0 W) w→wpAnyH Tryz.prog .any z1V Q (fun W:World=>W.rangeAt ba (oa+i*32) (z00 H)∧W.rangeAt bb (ob+i*32) (z00 K)∧Below w0.heap.size w0 W) 9 #[false,false,false,false,false,false,false,false,false] {tmps:=#[.slice (some ⟨ba,oa,none⟩) n ca,.slice (some ⟨bb,ob,none⟩) m cb,u2,u3,u4,.int .i64 (i:Int),u6,u7,u8,u9,u10,u11,u12,u13,u14,u15,u16,u17,u18,u19,u20,u21,u22,u23,u24,u25],defers:=[]} w:=fun w hw=>by
    have hww:(fun W:World=>W.rangeAt ba (oa+i*32) (z00 H)∧W.rangeAt bb (ob+i*32) (z00 K)∧Below w0.heap.size w0 W) w:=hw
    have last:wpAnyH Tryz.prog .any z1V Q (fun W:World=>W.rangeAt ba (oa+i*32) (z00 H)∧W.rangeAt bb (ob+i*32) (z00 K)∧Below w0.heap.size w0 W) 0 #[true,true,true,true,true,true,true,true,true] {tmps:=#[.slice (some ⟨ba,oa,none⟩) n ca,.slice (some ⟨bb,ob,none⟩) m cb,u2,u3,u4,.int .i64 (i:Int),u6,u7,u8,u9,u10,u11,u12,u13,u14,u15,.slice (some ⟨ba,oa,none⟩) n ca,.int .i64 (i:Int),.pointer (some ⟨ba,oa+i*32,none⟩),.agg (z00 H).toArray,.slice (some ⟨bb,ob,none⟩) m cb,.int .i64 (i:Int),.pointer (some ⟨bb,ob+i*32,none⟩),.agg (z00 K).toArray,.bool (!decide (H=K)),u25],defers:=[]} w:=wpAnyH_done (by kernel_rfl) (h w hw) _
    have t8:wpAnyH Tryz.prog .any z1V Q (fun W:World=>W.rangeAt ba (oa+i*32) (z00 H)∧W.rangeAt bb (ob+i*32) (z00 K)∧Below w0.heap.size w0 W) 1 #[true,true,true,true,true,true,true,true,false] {tmps:=#[.slice (some ⟨ba,oa,none⟩) n ca,.slice (some ⟨bb,ob,none⟩) m cb,u2,u3,u4,.int .i64 (i:Int),u6,u7,u8,u9,u10,u11,u12,u13,u14,u15,.slice (some ⟨ba,oa,none⟩) n ca,.int .i64 (i:Int),.pointer (some ⟨ba,oa+i*32,none⟩),.agg (z00 H).toArray,.slice (some ⟨bb,ob,none⟩) m cb,.int .i64 (i:Int),.pointer (some ⟨bb,ob+i*32,none⟩),.agg (z00 K).toArray,u24,u25],defers:=[]} w:=
      wpAnyH_take (i:=8) (oi:=⟨some 24,.binOp .neq 35 (.tmp 19) (.tmp 23) 35,4,"slices.go:25",#[⟨3,.data⟩,⟨7,.data⟩],none⟩) (v:=.bool (!decide (H=K))) rfl (by kernel_rfl) (by kernel_rfl) (by kernel_rfl) (fun _ _ _ h=>hQ _ _ _ _ _ h) (Yields.yieldsIf (Or.inl ⟨by rfl,fun W=>z09 (z5D hH hK _ _ W)⟩)) hww last
    have t7:wpAnyH Tryz.prog .any z1V Q (fun W:World=>W.rangeAt ba (oa+i*32) (z00 H)∧W.rangeAt bb (ob+i*32) (z00 K)∧Below w0.heap.size w0 W) 2 #[true,true,true,true,true,true,true,false,false] {tmps:=#[.slice (some ⟨ba,oa,none⟩) n ca,.slice (some ⟨bb,ob,none⟩) m cb,u2,u3,u4,.int .i64 (i:Int),u6,u7,u8,u9,u10,u11,u12,u13,u14,u15,.slice (some ⟨ba,oa,none⟩) n ca,.int .i64 (i:Int),.pointer (some ⟨ba,oa+i*32,none⟩),.agg (z00 H).toArray,.slice (some ⟨bb,ob,none⟩) m cb,.int .i64 (i:Int),.pointer (some ⟨bb,ob+i*32,none⟩),u23,u24,u25],defers:=[]} w:=
      wpAnyH_take (i:=7) (oi:=⟨some 23,.load 35 (.tmp 22),35,"slices.go:25",#[⟨6,.data⟩],none⟩) (v:=.agg (z00 K).toArray) rfl (by kernel_rfl) (by kernel_rfl) (by kernel_rfl) (fun _ _ _ h=>hQ _ _ _ _ _ h) (yieldsIf_load_mid (by rfl) 35 (.tmp 22) rfl bb (ob+i*32) rfl (z00 K) _ (fun w h=>h.2.1) Tryz.underlying35 rfl (z0l hK)) hww t8
    have t6:wpAnyH Tryz.prog .any z1V Q (fun W:World=>W.rangeAt ba (oa+i*32) (z00 H)∧W.rangeAt bb (ob+i*32) (z00 K)∧Below w0.heap.size w0 W) 3 #[true,true,true,true,true,true,false,false,false] {tmps:=#[.slice (some ⟨ba,oa,none⟩) n ca,.slice (some ⟨bb,ob,none⟩) m cb,u2,u3,u4,.int .i64 (i:Int),u6,u7,u8,u9,u10,u11,u12,u13,u14,u15,.slice (some ⟨ba,oa,none⟩) n ca,.int .i64 (i:Int),.pointer (some ⟨ba,oa+i*32,none⟩),.agg (z00 H).toArray,.slice (some ⟨bb,ob,none⟩) m cb,.int .i64 (i:Int),u22,u23,u24,u25],defers:=[]} w:=
      wpAnyH_take (i:=6) (oi:=⟨some 22,.indexAddr 22 (.tmp 20) (.tmp 21),0,"slices.go:25",#[⟨4,.data⟩,⟨5,.data⟩],none⟩) (v:=.pointer (some ⟨bb,ob+i*32,none⟩)) rfl (by kernel_rfl) (by kernel_rfl) (by kernel_rfl) (fun _ _ _ h=>hQ _ _ _ _ _ h) (Yields.yieldsIf (Or.inl ⟨by rfl,fun W=>by go_simp⟩)) hww t7
    have t5:wpAnyH Tryz.prog .any z1V Q (fun W:World=>W.rangeAt ba (oa+i*32) (z00 H)∧W.rangeAt bb (ob+i*32) (z00 K)∧Below w0.heap.size w0 W) 4 #[true,true,true,true,true,false,false,false,false] {tmps:=#[.slice (some ⟨ba,oa,none⟩) n ca,.slice (some ⟨bb,ob,none⟩) m cb,u2,u3,u4,.int .i64 (i:Int),u6,u7,u8,u9,u10,u11,u12,u13,u14,u15,.slice (some ⟨ba,oa,none⟩) n ca,.int .i64 (i:Int),.pointer (some ⟨ba,oa+i*32,none⟩),.agg (z00 H).toArray,.slice (some ⟨bb,ob,none⟩) m cb,u21,u22,u23,u24,u25],defers:=[]} w:=
      wpAnyH_take (i:=5) (oi:=⟨some 21,.move (.tmp 5),3,"slices.go:25",#[],none⟩) (v:=.int .i64 (i:Int)) rfl (by kernel_rfl) (by kernel_rfl) (by kernel_rfl) (fun _ _ _ h=>hQ _ _ _ _ _ h) (Yields.yieldsIf (Or.inl ⟨by rfl,fun W=>by go_simp⟩)) hww t6
    have t4:wpAnyH Tryz.prog .any z1V Q (fun W:World=>W.rangeAt ba (oa+i*32) (z00 H)∧W.rangeAt bb (ob+i*32) (z00 K)∧Below w0.heap.size w0 W) 5 #[true,true,true,true,false,false,false,false,false] {tmps:=#[.slice (some ⟨ba,oa,none⟩) n ca,.slice (some ⟨bb,ob,none⟩) m cb,u2,u3,u4,.int .i64 (i:Int),u6,u7,u8,u9,u10,u11,u12,u13,u14,u15,.slice (some ⟨ba,oa,none⟩) n ca,.int .i64 (i:Int),.pointer (some ⟨ba,oa+i*32,none⟩),.agg (z00 H).toArray,u20,u21,u22,u23,u24,u25],defers:=[]} w:=
      wpAnyH_take (i:=4) (oi:=⟨some 20,.move (.tmp 1),22,"slices.go:25",#[],none⟩) (v:=.slice (some ⟨bb,ob,none⟩) m cb) rfl (by kernel_rfl) (by kernel_rfl) (by kernel_rfl) (fun _ _ _ h=>hQ _ _ _ _ _ h) (Yields.yieldsIf (Or.inl ⟨by rfl,fun W=>by go_simp⟩)) hww t5
    have t3:wpAnyH Tryz.prog .any z1V Q (fun W:World=>W.rangeAt ba (oa+i*32) (z00 H)∧W.rangeAt bb (ob+i*32) (z00 K)∧Below w0.heap.size w0 W) 6 #[true,true,true,false,false,false,false,false,false] {tmps:=#[.slice (some ⟨ba,oa,none⟩) n ca,.slice (some ⟨bb,ob,none⟩) m cb,u2,u3,u4,.int .i64 (i:Int),u6,u7,u8,u9,u10,u11,u12,u13,u14,u15,.slice (some ⟨ba,oa,none⟩) n ca,.int .i64 (i:Int),.pointer (some ⟨ba,oa+i*32,none⟩),u19,u20,u21,u22,u23,u24,u25],defers:=[]} w:=
      wpAnyH_take (i:=3) (oi:=⟨some 19,.load 35 (.tmp 18),35,"slices.go:25",#[⟨2,.data⟩],none⟩) (v:=.agg (z00 H).toArray) rfl (by kernel_rfl) (by kernel_rfl) (by kernel_rfl) (fun _ _ _ h=>hQ _ _ _ _ _ h) (yieldsIf_load_mid (by rfl) 35 (.tmp 18) rfl ba (oa+i*32) rfl (z00 H) _ (fun w h=>h.1) Tryz.underlying35 rfl (z0l hH)) hww t4
    have t2:wpAnyH Tryz.prog .any z1V Q (fun W:World=>W.rangeAt ba (oa+i*32) (z00 H)∧W.rangeAt bb (ob+i*32) (z00 K)∧Below w0.heap.size w0 W) 7 #[true,true,false,false,false,false,false,false,false] {tmps:=#[.slice (some ⟨ba,oa,none⟩) n ca,.slice (some ⟨bb,ob,none⟩) m cb,u2,u3,u4,.int .i64 (i:Int),u6,u7,u8,u9,u10,u11,u12,u13,u14,u15,.slice (some ⟨ba,oa,none⟩) n ca,.int .i64 (i:Int),u18,u19,u20,u21,u22,u23,u24,u25],defers:=[]} w:=
      wpAnyH_take (i:=2) (oi:=⟨some 18,.indexAddr 22 (.tmp 16) (.tmp 17),0,"slices.go:25",#[⟨0,.data⟩,⟨1,.data⟩],none⟩) (v:=.pointer (some ⟨ba,oa+i*32,none⟩)) rfl (by kernel_rfl) (by kernel_rfl) (by kernel_rfl) (fun _ _ _ h=>hQ _ _ _ _ _ h) (Yields.yieldsIf (Or.inl ⟨by rfl,fun W=>by go_simp⟩)) hww t3
    have t1:wpAnyH Tryz.prog .any z1V Q (fun W:World=>W.rangeAt ba (oa+i*32) (z00 H)∧W.rangeAt bb (ob+i*32) (z00 K)∧Below w0.heap.size w0 W) 8 #[true,false,false,false,false,false,false,false,false] {tmps:=#[.slice (some ⟨ba,oa,none⟩) n ca,.slice (some ⟨bb,ob,none⟩) m cb,u2,u3,u4,.int .i64 (i:Int),u6,u7,u8,u9,u10,u11,u12,u13,u14,u15,.slice (some ⟨ba,oa,none⟩) n ca,u17,u18,u19,u20,u21,u22,u23,u24,u25],defers:=[]} w:=
      wpAnyH_take (i:=1) (oi:=⟨some 17,.move (.tmp 5),3,"slices.go:25",#[],none⟩) (v:=.int .i64 (i:Int)) rfl (by kernel_rfl) (by kernel_rfl) (by kernel_rfl) (fun _ _ _ h=>hQ _ _ _ _ _ h) (Yields.yieldsIf (Or.inl ⟨by rfl,fun W=>by go_simp⟩)) hww t2
    have t0:wpAnyH Tryz.prog .any z1V Q (fun W:World=>W.rangeAt ba (oa+i*32) (z00 H)∧W.rangeAt bb (ob+i*32) (z00 K)∧Below w0.heap.size w0 W) 9 #[false,false,false,false,false,false,false,false,false] {tmps:=#[.slice (some ⟨ba,oa,none⟩) n ca,.slice (some ⟨bb,ob,none⟩) m cb,u2,u3,u4,.int .i64 (i:Int),u6,u7,u8,u9,u10,u11,u12,u13,u14,u15,u16,u17,u18,u19,u20,u21,u22,u23,u24,u25],defers:=[]} w:=
      wpAnyH_take (i:=0) (oi:=⟨some 16,.move (.tmp 0),22,"slices.go:25",#[],none⟩) (v:=.slice (some ⟨ba,oa,none⟩) n ca) rfl (by kernel_rfl) (by kernel_rfl) (by kernel_rfl) (fun _ _ _ h=>hQ _ _ _ _ _ h) (Yields.yieldsIf (Or.inl ⟨by rfl,fun W=>by go_simp⟩)) hww t1
    exact t0
  exact wp_region_held_drew (S:=(fun W:World=>W.rangeAt ba (oa+i*32) (z00 H)∧W.rangeAt bb (ob+i*32) (z00 K)∧Below w0.heap.size w0 W)) (by kernel_rfl) hs0 (fun _=>k0 _ hs0)
set_option maxHeartbeats 1000000 in
theorem z6b (a b:Option Addr) (n m ca cb:Nat) (l k:List Int) (w:World) (hA:Flat w a n l) (hB:Flat w b m k) (hn:n≤1000000):
    Calls Tryz.prog 54 #[.slice a n ca,.slice b m cb] w fun e w'=>e=.returned (.bool (decide (l=k)))∧Below w.heap.size w w':=by
  by_cases hnm:n=m
  · subst hnm
    rcases Nat.eq_zero_or_pos n with h | h
    · subst h
      have hd:decide (l=k)=true:=by
        rw [List.eq_nil_of_length_eq_zero hA.1,List.eq_nil_of_length_eq_zero hB.1]
        rfl
      rw [hd]
      clear hA hB hd
      go_enter Tryz.func54,Tryz.ntmps54
      go_wp2
      refine wp_loop_rounds 1 ?_
      rw [rounds_succ]
      go_wp2
      go_ret
      exact ⟨rfl,Below.refl _ _⟩
    · obtain ⟨ba,oa,rfl,la,hca⟩:=hA.2.1 h
      obtain ⟨bb,ob,rfl,lb,hcb⟩:=hB.2.1 h
      have HC:Aside (Flat w (some ⟨ba,oa,none⟩) n l∧Flat w (some ⟨bb,ob,none⟩) n k∧n≤1000000):=⟨hA,hB,hn⟩
      clear hA hB hca hcb la lb hn
      obtain ⟨D,hD⟩:∃ D,D=decide (l=k):=⟨_,rfl⟩
      rw [← hD]
      have HD:Aside (D=decide (l=k)):=hD
      clear hD
      go_enter Tryz.func54,Tryz.ntmps54
      go_wp2
      go_loopg [13] n (fun g s13 wx=>∃ i:Nat,s13=.int .i64 i∧Aside (i+g=n∧Below w.heap.size w wx∧∀ j,j<i→HSH l j=HSH k j))
      case atStart=>exact ⟨0,rfl,by omega,Below.refl _ _,fun j hj=>by omega⟩
      case round=>
        obtain ⟨i,rfl,A⟩:=hrel
        cases gk with
        | zero=>
          obtain rfl:i=n:=by have:=A.out.1;omega
          have hlt:¬ (i:Int)<(i:Int):=by omega
          have hd:Aside (D=true):=by
            show D=true
            rw [HD.out,decide_eq_true_iff]
            exact z9J HC.out.1.1 HC.out.2.1.1 A.out.2.2
          clear HD HC
          go_wp2
          go_ret
          exact ⟨by rw [hd.out];rfl,A.out.2.1⟩
        | succ g=>
          obtain ⟨hig,hbel,hbef⟩:=A.out
          have hlt:(i:Int)<(n:Int):=by omega
          have r1:=(HC.out.1.below hbel).at (show i<n by omega)
          have r2:=(HC.out.2.1.below hbel).at (show i<n by omega)
          have l1:=z0w HC.out.1.1 (show i<n by omega)
          have l2:=z0w HC.out.2.1.1 (show i<n by omega)
          have E1:Aside (wrap64 ((i:Int)+1)=((i+1:Nat):Int)):=by have:=HC.out.2.2;show wrap64 ((i:Int)+1)=((i+1:Nat):Int);unfold wrap64;omega
          by_cases he:HSH l i=HSH k i
          · have B:Aside (i+1+g=n∧∀ j,j<i+1→HSH l j=HSH k j):=⟨by omega,fun j hj=>by
              by_cases e:j=i
              · rw [e];exact he
              · exact hbef j (by omega)⟩
            have hdf:(!decide (HSH l i=HSH k i))=false:=by rw [he];simp
            have Z:Aside (Below w.heap.size w wr):=hbel
            clear he hig hbel hbef A HD HC
            generalize HSH l i=H at *
            generalize HSH k i=K at *
            go_upto_region 6 with fail
            refine z4l _ _ _ _ _ _ _ _ _ _ _ _ _ _ _ _ _ _ _ _ _ _ _ _ w ba oa n ca bb ob n cb i H K l1 l2 hlt hlt ⟨r1,r2,Z.out⟩ (fun _ _ _ _ _ h=>h) ?_
            rintro w1 ⟨_,_,q3⟩
            rw [hdf]
            clear r1 r2 l1 l2 hdf
            have Z2:Aside (Below w.heap.size w w1):=q3
            clear q3 Z
            have e1:=E1.out
            go_wp2
            go_roundg g
            case measure=>exact Nat.lt_succ_self _
            case rel=>exact ⟨i+1,by first | rfl | (rw [E1.out]),B.out.1,Z2.out,B.out.2⟩
          · have hd:Aside (D=false):=by
              show D=false
              rw [HD.out,decide_eq_false_iff_not]
              intro e
              rw [e] at he
              exact he rfl
            have hdf:(!decide (HSH l i=HSH k i))=true:=by simp [he]
            have Z:Aside (Below w.heap.size w wr):=hbel
            clear he hig hbel hbef A HD HC E1
            generalize HSH l i=H at *
            generalize HSH k i=K at *
            go_upto_region 6 with fail
            refine z4l _ _ _ _ _ _ _ _ _ _ _ _ _ _ _ _ _ _ _ _ _ _ _ _ w ba oa n ca bb ob n cb i H K l1 l2 hlt hlt ⟨r1,r2,Z.out⟩ (fun _ _ _ _ _ h=>h) ?_
            rintro w1 ⟨_,_,q3⟩
            rw [hdf]
            clear r1 r2 l1 l2 hdf
            have Z2:Aside (Below w.heap.size w w1):=q3
            clear q3 Z
            go_wp2
            go_ret
            exact ⟨by rw [hd.out];rfl,Z2.out⟩
  · have hne:¬ (n:Int)=(m:Int):=by omega
    have hd:decide (l=k)=false:=by
      rw [decide_eq_false_iff_not]
      intro e
      rw [e] at hA
      have:=hA.1.symm.trans hB.1
      omega
    rw [hd]
    clear hA hB hd
    go_enter Tryz.func54,Tryz.ntmps54
    go_wp2
    go_ret
    exact ⟨rfl,Below.refl _ _⟩
end Go.Proofs.YtjkjlblongeljaaGreatDoor

namespace Go.Proofs.YtjkjlblongeljaaGreatDoor
open Go.RowKit
set_option maxRecDepth 100000
set_option maxHeartbeats 4000000 in
theorem z6c (d n:Int) (R:List Int) (ix:Value) (x:Option Addr) (m c c2:Nat) (p q:Value) (l:List Int) (w:World) (hm:m≤1000000) (hF:Flat w x m l):
    Calls Tryz.prog 24 #[.int .i64 d,.agg (z00 R).toArray,.int .u64 n,ix,.slice x m c,p,.slice x m c2,q] w fun e w'=>e=.returned (.tuple #[.agg #[.slice none 0 0,.slice none 0 0],.bool false])∧Below w.heap.size w w':=by
  obtain ⟨W0,hW0⟩:∃ W0,(w.alloc (.cells (z00 R).toArray 35)).alloc (.cells #[.slice none 0 0,.slice none 0 0] 61)=W0:=⟨_,rfl⟩
  obtain ⟨b9,hb9⟩:∃ b,w.heap.size=b:=⟨_,rfl⟩
  obtain ⟨b16,hb16⟩:∃ b,b9+1=b:=⟨_,rfl⟩
  have hb0:Below w.heap.size w W0:=by rw [← hW0];exact ((Below.refl _ _).alloc (Nat.le_refl _) _).alloc (by simp) _
  have hz0:Has W0 b16 #[.slice none 0 0,.slice none 0 0] 61:=by rw [← hW0,← hb16,← hb9];exact Has.at _ _ _ (by simp)
  have ce:=z6b x x m m c c2 l l W0 (hF.below hb0) (hF.below hb0) hm
  rw [show decide (l=l)=true by simp] at ce
  have H0:Aside (Below w.heap.size w W0∧Has W0 b16 #[.slice none 0 0,.slice none 0 0] 61∧w.heap.size≤b16):=⟨hb0,hz0,by omega⟩
  clear hF hm hb0 hz0
  go_enter Tryz.func24,Tryz.ntmps24
  go_upto_region 1 with fail
  clear hW0 hb9 hb16
  go_wp2_with fail
  refine ce.mono ?_
  rintro e w1 ⟨rfl,hb1⟩
  clear ce
  have h1:=H0.out.2.1.keep hb1
  have FB:Aside (Below w.heap.size w (w1.setRow b16 #[.slice none 0 0,.slice none 0 0])):=z06 (H0.out.1.trans (hb1.mono H0.out.1.size)) H0.out.2.2 _
  clear hb1 H0
  go_wp2_with (refine wpList_store_row rfl 61 (.tmp 16) (.tmp 48) rfl _ _ rfl rfl 61 _ h1 (by kernel_rfl) rfl (by simp [Value.oneCell']) ?_)
  refine bodyPost_ret (v:=.tuple #[.agg #[.slice none 0 0,.slice none 0 0],.bool false]) ?_ rfl ⟨rfl,FB.out⟩
  have z0:(w1.setRow b16 #[.slice none 0 0,.slice none 0 0]).cell? ⟨b16,0,none⟩=some (.slice none 0 0):=(h1.row _).cell 0
  have z1:(w1.setRow b16 #[.slice none 0 0,.slice none 0 0]).cell? ⟨b16,1,none⟩=some (.slice none 0 0):=(h1.row _).cell 1
  simp [results,Tryz.f24,go_sem,z0,z1]
end Go.Proofs.YtjkjlblongeljaaGreatDoor
