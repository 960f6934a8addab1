/- FindProves: part 38. -/
import Derived.Test.YtlbcnaenhghieaaGreatDoorFindProvesP37
set_option maxHeartbeats 4000000
namespace Go.Proofs.YtlbcnaenhghieaaGreatDoor
open Go.RowKit Go.Maps
set_option maxRecDepth 100000
structure FTW (w wx:World) (f:Nat->List Int) (n i k:Nat) (oa:Option Addr) (oc:Nat):Prop where
 len:k=(TWS f n i).length
 bel:Below w.heap.size w wx
 own:wx.ownsRow w.heap.size 25 32 (.slice oa k oc) k (z00 (TWS f n i).flatten)
theorem FTW.skip {w wx:World} {f:Nat->List Int} {n i k:Nat} {oa:Option Addr} {oc:Nat} (h:FTW w wx f n i k oa oc) (hc:¬ (LSTI f i (f i) = -1/\LSTI f n (f i)≠(i:Int))):FTW w wx f n (i+1) k oa oc:=by
 have e:TWS f n (i+1)=TWS f n i:=by rw [TWS,if_neg hc,List.append_nil]
 exact ⟨by rw [e];exact h.len,h.bel,by rw [e];exact h.own⟩
theorem FTW.below {w wx wy:World} {f:Nat->List Int} {n i k:Nat} {oa:Option Addr} {oc:Nat} (h:FTW w wx f n i k oa oc) (hb:Below wx.heap.size wx wy):FTW w wy f n i k oa oc:=
 ⟨h.len,h.bel.trans (hb.mono h.bel.size),z0J h.own fun k e=>hb.block k (h.own.lt k e).2⟩
theorem zcd {w:World} {B p n:Nat} {v:Value} {m:Option Nat} {f:Nat->List Int} (H:FIND w B p v m f n) (hn:n<=100000):Calls Tryz.prog 37 #[.pointer (some ⟨p,0,none⟩)] w fun e w'=>∃ a c,e=.returned (.slice a (TWS f n n).length c)/\w'.ownsRow w.heap.size 25 32 (.slice a (TWS f n n).length c) (TWS f n n).length (z00 (TWS f n n).flatten)/\Below w.heap.size w w':=by
 obtain ⟨a,c,rfl, -⟩:=H.slice;have x0:=H.box.cell 0;have HA:Aside (FIND w B p (.slice a n c) m f n/\n<=100000):=⟨H,hn⟩
 clear H hn;go_enter Tryz.func37,Tryz.ntmps37;go_wp2_with fail
 clear x0;go_loopg [3,4,5,11] n (fun q s3 _ _ s11 wx=>∃ (i k:Nat) (oa:Option Addr) (oc:Nat),s3=.slice oa k oc/\s11=.int .i64 (i:Int)/\Aside (i+q=n/\FTW w wx f n i k oa oc))
 case atStart=>exact ⟨0,0,none,0,rfl,rfl,by omega,rfl,Below.refl _ _,⟨rfl,.inl ⟨rfl,rfl⟩⟩⟩
 case round=>
  obtain ⟨i,k,oa,oc,rfl,rfl,A⟩:=hrel;cases gk with
  | zero=>
    obtain rfl:i=n:=A.out.1;have hlt:¬ (i:Int)<(i:Int):=by omega
    have Z:Aside (k=(TWS f i i).length/\Below w.heap.size w wr/\wr.ownsRow w.heap.size 25 32 (.slice oa k oc) k (z00 (TWS f i i).flatten)):=⟨A.out.2.len,A.out.2.bel,A.out.2.own⟩
    clear A;go_wp2;go_ret;obtain ⟨z1,z2,z3⟩:=Z.out;subst z1;exact ⟨oa,oc,rfl,z3,z2⟩
  | succ q=>
    have hin:i<n:=by have:=A.out.1;omega
    have hlt:(i:Int)<(n:Int):=by omega
    obtain ⟨g,rfl, -⟩:∃ g,a=some ⟨g,0,none⟩/\True:=by
     rcases HA.out.1.own.2 with ⟨e,e0⟩ | ⟨g,cap,cur,e,_⟩
     ·omega
     ·cases e
      exact ⟨g,rfl,trivial⟩
    obtain ⟨b,rfl, -⟩:∃ b,m=some b/\True:=by
     rcases HA.out.1.map with ⟨_,_,e⟩ | ⟨b,e,_⟩
     ·omega
     ·exact ⟨b,e,trivial⟩
    have F:=HA.out.1.keep A.out.2.bel;have hh:=F.is i hin;have y1:wr.rangeAt g (i*33) (ENT f i):=F.entry hin;have hi:=zcX hh;have he:=z2F hh;obtain ⟨bx,hbx⟩:∃ b,wr.heap.size=b:=⟨_,rfl⟩
    obtain ⟨w1,hw1⟩:∃ w1,wr.alloc (.cells (ENT f i).toArray 75)=w1:=⟨_,rfl⟩
    have k0:Has (wr.alloc (.cells ZENT 75)) bx (z00 ZND ++ [Value.int .i64 0]).toArray 75:=by rw [<-hbx,<-zh1];exact Has.new _ _ _
    have hst:=zdW k0 (y:=ENT f i) rfl he (zgo f i);have k1:Has w1 bx (ENT f i).toArray 75:=by rw [<-hw1,<-hbx];exact Has.new _ _ _
    rw [<-hbx,World.setRow_alloc_new,hw1,hbx] at hst;have hb1:Below wr.heap.size wr w1:=by rw [<-hw1];exact (Below.refl _ _).alloc (Nat.le_refl _) _
    have F1:FIND w1.drew B p (.slice (some ⟨g,0,none⟩) n c) (some b) f n:=F.keep hb1.drew;have T1:=A.out.2.below hb1.drew;have hz:=zh0;obtain ⟨l,hl⟩:∃ l,LSTI f i (f i)=l:=⟨_,rfl⟩
    obtain ⟨L,hL⟩:∃ L,LSTI f n (f i)=L:=⟨_,rfl⟩
    have x32:w1.cell? ⟨bx,32,none⟩=some (.int .i64 l):=by
     rw [k1.cell,List.getElem?_toArray,ENT,List.getElem?_append_right (by simp [z00,hh.1]),hl];simp [z00,hh.1]
    have hr:w1.rangeAt bx 0 (z00 (f i)):=fun j u hj=>by
     rw [Nat.zero_add,k1.cell,List.getElem?_toArray,ENT,List.getElem?_append_left (List.getElem?_eq_some_iff.1 hj).1];exact hj
    have hLn:LSTI f n (f i) ≠ -1:=fun e=>z3b.1 e i hin rfl
    have hget:(Instr.lookup 55 (.map (some b)) (.agg (z00 (f i)).toArray) false).run Tryz.prog w1.drew=.ok (.int .i64 L) w1.drew:=by
     rcases F1.map with ⟨e,_⟩ | ⟨b',e,_,h2⟩
     ·cases e
     ·cases e
      rw [<-hL];exact h2.get hh hLn
    have JJ:Aside (∀ W,W=w1.drew->W.cell? ⟨p,1,none⟩=some (.map (some b))/\W.rangeAt bx 0 (z00 (f i))/\W.cell? ⟨bx,32,none⟩=some (.int .i64 l)/\(Instr.lookup 55 (.map (some b)) (.agg (z00 (f i)).toArray) false).run Tryz.prog W=.ok (.int .i64 L) W):=by
     rintro W rfl;exact ⟨F1.box.cell 1,hr,x32,hget⟩
    have RR:Aside (FTW w w1.drew f n i k oa oc/\i+1+q=n/\LSTI f i (f i)=l/\LSTI f n (f i)=L/\(f i).length=32/\n<=100000/\Has w1.drew bx (ENT f i).toArray 75):=⟨T1,by have:=A.out.1;omega,hl,hL,hh.1,HA.out.2,k1⟩
    have ei:wrap64 ((i:Int)+1)=((i+1:Nat):Int):=by have:=HA.out.2;unfold wrap64;omega
    have hrd:Aside (w1.drew.rangeAt bx 0 (z00 (f i))):=hr;have hEi:ENT f i=z00 (f i) ++ [.int .i64 l]:=by rw [ENT,hl]
    generalize ENT f i=E at *
    clear A F F1 T1 k0 k1 hb1 hget x32 hr hLn hw1 hl hL hin hEi
    go_upto_region 5 with (first
     | (refine wpList_load_mid rfl 75 (.tmp 14) rfl g (i*33) rfl E _ y1 Tryz.underlying75 rfl (by simpa using hi) ?_)
     | fail)
    clear hst y1 hi hz;by_cases hc:l = -1
    ·by_cases hc2:L=(i:Int)
     ·refine zeO w1 p bx (some b) (f i) RR.out.2.2.2.2.1 l L (i:Int) hc hc2 (fun W=>W=w1.drew) rfl (fun W h=>JJ.out W h) (fun _ _ _ _ _ h=>h) ?_
      rintro W rfl;have Z:Aside (FTW w w1.drew f n (i+1) k oa oc):=RR.out.1.skip (fun h=>h.2 (RR.out.2.2.2.1.trans hc2));clear JJ;generalize w1.drew=W2 at *
      go_wp2;go_roundg q
      case measure=>exact Nat.lt_succ_self _
      case rel=>exact ⟨i+1,k,oa,oc,rfl,by rw [ei],RR.out.2.1,Z.out⟩
     ·refine zeN w1 p bx (some b) (f i) RR.out.2.2.2.2.1 l L (i:Int) hc hc2 (fun W=>W=w1.drew) rfl (fun W h=>JJ.out W h) (fun _ _ _ _ _ h=>h) ?_
      rintro W rfl;clear JJ;generalize w1.drew=W2 at *
      have hkl:k<=100000:=by have:=RR.out.1.len;have:=z5D f n i;have:=RR.out.2.1;have:=RR.out.2.2.2.2.2.1;omega
      have hb2:=RR.out.1.bel.size
      go_wp2_with (first
       | (refine wpList_load_mid rfl 25 (.tmp 31) rfl bx 0 rfl (z00 (f i)) _ hrd.out Tryz.underlying25 rfl (z0g RR.out.2.2.2.2.1) ?_)
       | (refine z0S _ rfl 22 25 (.tmp 32) rfl (z00 (f i)).toArray rfl 32 _ _ Tryz.underlying22 z2E (by simp [z00,RR.out.2.2.2.2.1]) rfl (by decide) (by decide) ?_)
       | (at_builtin;refine z4t _ rfl (.tmp 30) (.tmp 33) rfl w.heap.size (.slice oa k oc) k _ rfl (RR.out.1.own.alloc _) _ 1 (f i) RR.out.2.2.2.2.1 rfl (Has.new _ _ _) hkl (by simp;omega) ?_;intro g7 c7 w7 hown hgrow hat hg7)
       | fail)
      have Z:Aside (FTW w w7 f n (i+1) (k+1) (some ⟨g7,0,none⟩) c7):=by
       have e:TWS f n (i+1)=TWS f n i ++ [f i]:=by rw [TWS,if_pos ⟨RR.out.2.2.1.trans hc,fun h=>hc2 (RR.out.2.2.2.1.symm.trans h)⟩]
       refine ⟨by rw [e,List.length_append,<-RR.out.1.len];rfl,(RR.out.1.bel.alloc hb2 _).grown hgrow (by simp;omega) (fun k e=>(RR.out.1.own.lt k e).1),?_⟩;rw [e,List.flatten_append,z0v];simp only [List.flatten_cons,List.flatten_nil,List.append_nil];exact hown
      have HQ:Aside (i+1+q=n):=RR.out.2.1;clear hown hgrow hat hg7 RR hrd;go_wp2;go_roundg q
      case measure=>exact Nat.lt_succ_self _
      case rel=>exact ⟨i+1,k+1,some ⟨g7,0,none⟩,c7,rfl,by rw [ei],HQ.out,Z.out⟩
    ·refine zeM w1 p bx (some b) (f i) RR.out.2.2.2.2.1 l L (i:Int) hc (fun W=>W=w1.drew) rfl (fun W h=>JJ.out W h) (fun _ _ _ _ _ h=>h) ?_
     rintro W rfl;have Z:Aside (FTW w w1.drew f n (i+1) k oa oc):=RR.out.1.skip (fun h=>hc (RR.out.2.2.1.symm.trans h.1));clear JJ;generalize w1.drew=W2 at *
     go_wp2;go_roundg q
     case measure=>exact Nat.lt_succ_self _
     case rel=>exact ⟨i+1,k,oa,oc,rfl,by rw [ei],RR.out.2.1,Z.out⟩
end Go.Proofs.YtlbcnaenhghieaaGreatDoor
namespace Go.Proofs.YtlbcnaenhghieaaGreatDoor
set_option linter.unusedSimpArgs false
open Go.RowKit
set_option maxRecDepth 100000
theorem zfK {h:List Int} (hh:h.length=32) (x y:Operand) (w:World):(do eqGuard .eql 25 x y (.agg (z00 h).toArray) (.agg (z00 h).toArray);binOp .eql 25 (.agg (z00 h).toArray) (.agg (z00 h).toArray):Sem Value).run Tryz.prog w=.ok (.bool true) w:=by
 rw [z5T hh hh];simp
@[go_sem] def FW8OPSq0:Oper:=⟨some 32,.move (.tmp 4),23,"law.go:26",#[],none⟩
@[go_sem] def FW8OPSq1:Oper:=⟨some 33,.call {callee:=.builtin .len,args:=#[.tmp 32],argTypes:=#[23]},3,"law.go:26",#[⟨0,.data⟩],none⟩
@[go_sem] def FW8OPSq2:Oper:=⟨some 34,.binOp .eql 3 (.tmp 33) (.const (.int .i64 2)) 3,4,"law.go:26",#[⟨1,.data⟩],none⟩
@[go_sem] def FW8OPSq3:Oper:=⟨some 35,.move (.tmp 34),4,"law.go:26",#[⟨2,.data⟩],none⟩
@[go_sem] def FW8OPSq4:Oper:=⟨some 36,.move (.tmp 4),23,"law.go:26",#[⟨3,.guard⟩],some (3,true)⟩
@[go_sem] def FW8OPSq5:Oper:=⟨some 37,.indexAddr 23 (.tmp 36) (.const (.int .i64 0)),0,"law.go:26",#[⟨4,.data⟩,⟨3,.guard⟩],some (3,true)⟩
@[go_sem] def FW8OPSq6:Oper:=⟨some 38,.load 36 (.tmp 37),36,"law.go:26",#[⟨5,.data⟩,⟨3,.guard⟩],some (3,true)⟩
@[go_sem] def FW8OPSq7:Oper:=⟨some 39,.binOp .eql 36 (.tmp 38) (.const (.int .u64 0)) 36,4,"law.go:26",#[⟨6,.data⟩,⟨3,.guard⟩],some (3,true)⟩
@[go_sem] def FW8OPSq8:Oper:=⟨some 40,.pick (.tmp 35) (.tmp 39) (.const (.bool false)),4,"law.go:26",#[⟨3,.data⟩,⟨7,.data⟩],none⟩
@[go_sem] def FW8OPSq9:Oper:=⟨some 41,.move (.tmp 40),4,"law.go:26",#[⟨8,.data⟩,⟨3,.chain⟩],none⟩
@[go_sem] def FW8OPSq10:Oper:=⟨some 42,.move (.tmp 4),23,"law.go:26",#[⟨9,.guard⟩],some (9,true)⟩
@[go_sem] def FW8OPSq11:Oper:=⟨some 43,.indexAddr 23 (.tmp 42) (.const (.int .i64 1)),0,"law.go:26",#[⟨10,.data⟩,⟨9,.guard⟩],some (9,true)⟩
@[go_sem] def FW8OPSq12:Oper:=⟨some 44,.load 36 (.tmp 43),36,"law.go:26",#[⟨11,.data⟩,⟨9,.guard⟩],some (9,true)⟩
@[go_sem] def FW8OPSq13:Oper:=⟨some 45,.binOp .eql 36 (.tmp 44) (.const (.int .u64 2)) 36,4,"law.go:26",#[⟨12,.data⟩,⟨9,.guard⟩],some (9,true)⟩
@[go_sem] def FW8OPSq14:Oper:=⟨some 46,.pick (.tmp 41) (.tmp 45) (.const (.bool false)),4,"law.go:26",#[⟨9,.data⟩,⟨13,.data⟩],none⟩
@[go_sem] def FW8OPSq15:Oper:=⟨some 47,.move (.tmp 46),4,"law.go:26",#[⟨14,.data⟩,⟨9,.chain⟩],none⟩
@[go_sem] def FW8OPSq16:Oper:=⟨some 48,.move (.tmp 5),22,"law.go:26",#[⟨15,.guard⟩],some (15,true)⟩
@[go_sem] def FW8OPSq17:Oper:=⟨some 49,.call {callee:=.builtin .len,args:=#[.tmp 48],argTypes:=#[22]},3,"law.go:26",#[⟨16,.data⟩,⟨15,.guard⟩],some (15,true)⟩
@[go_sem] def FW8OPSq18:Oper:=⟨some 50,.binOp .eql 3 (.tmp 49) (.const (.int .i64 1)) 3,4,"law.go:26",#[⟨17,.data⟩,⟨15,.guard⟩],some (15,true)⟩
@[go_sem] def FW8OPSq19:Oper:=⟨some 51,.pick (.tmp 47) (.tmp 50) (.const (.bool false)),4,"law.go:26",#[⟨15,.data⟩,⟨18,.data⟩],none⟩
@[go_sem] def FW8OPSq20:Oper:=⟨some 52,.move (.tmp 51),4,"law.go:26",#[⟨19,.data⟩,⟨15,.chain⟩],none⟩
@[go_sem] def FW8OPSq21:Oper:=⟨some 53,.move (.tmp 5),22,"law.go:26",#[⟨20,.guard⟩],some (20,true)⟩
@[go_sem] def FW8OPSq22:Oper:=⟨some 54,.indexAddr 22 (.tmp 53) (.const (.int .i64 0)),0,"law.go:26",#[⟨21,.data⟩,⟨20,.guard⟩],some (20,true)⟩
@[go_sem] def FW8OPSq23:Oper:=⟨some 55,.load 25 (.tmp 54),25,"law.go:26",#[⟨22,.data⟩,⟨20,.guard⟩],some (20,true)⟩
@[go_sem] def FW8OPSq24:Oper:=⟨some 56,.load 25 (.tmp 2),25,"law.go:26",#[⟨20,.guard⟩],some (20,true)⟩
@[go_sem] def FW8OPSq25:Oper:=⟨some 57,.binOp .eql 25 (.tmp 55) (.tmp 56) 25,4,"law.go:26",#[⟨23,.data⟩,⟨24,.data⟩,⟨20,.guard⟩],some (20,true)⟩
@[go_sem] def FW8OPSq26:Oper:=⟨some 58,.pick (.tmp 52) (.tmp 57) (.const (.bool false)),4,"law.go:26",#[⟨20,.data⟩,⟨25,.data⟩],none⟩
@[go_sem] def FW8OPSq27:Oper:=⟨some 59,.move (.tmp 58),4,"law.go:26",#[⟨26,.data⟩,⟨20,.chain⟩],none⟩
@[go_sem] def FW8OPSq28:Oper:=⟨some 60,.move (.tmp 1),26,"law.go:26",#[⟨27,.guard⟩],some (27,true)⟩
@[go_sem] def FW8OPSq29:Oper:=⟨some 61,.call {callee:=.value (.func 38),args:=#[.tmp 60],argTypes:=#[26]},3,"law.go:26",#[⟨28,.data⟩,⟨27,.chain⟩,⟨27,.guard⟩],some (27,true)⟩
@[go_sem] def FW8OPSq30:Oper:=⟨some 62,.binOp .eql 3 (.tmp 61) (.const (.int .i64 2)) 3,4,"law.go:26",#[⟨29,.data⟩,⟨27,.guard⟩],some (27,true)⟩
@[go_sem] def FW8OPSq31:Oper:=⟨some 63,.pick (.tmp 59) (.tmp 62) (.const (.bool false)),4,"law.go:26",#[⟨27,.data⟩,⟨30,.data⟩],none⟩
@[go_sem] def FW8OPSq32:Oper:=⟨some 64,.move (.tmp 63),4,"law.go:26",#[⟨31,.data⟩,⟨29,.chain⟩],none⟩
@[go_sem] def FW8OPSq33:Oper:=⟨some 65,.move (.tmp 1),26,"law.go:26",#[⟨32,.guard⟩],some (32,true)⟩
@[go_sem] def FW8OPSq34:Oper:=⟨some 66,.call {callee:=.value (.func 34),args:=#[.tmp 65],argTypes:=#[26]},36,"law.go:26",#[⟨33,.data⟩,⟨32,.chain⟩,⟨32,.guard⟩],some (32,true)⟩
@[go_sem] def FW8OPSq35:Oper:=⟨some 67,.binOp .eql 36 (.tmp 66) (.const (.int .u64 3)) 36,4,"law.go:26",#[⟨34,.data⟩,⟨32,.guard⟩],some (32,true)⟩
@[go_sem] def FW8OPSq36:Oper:=⟨some 68,.pick (.tmp 64) (.tmp 67) (.const (.bool false)),4,"law.go:26",#[⟨32,.data⟩,⟨35,.data⟩],none⟩
@[go_sem] def FW8OPSq37:Oper:=⟨some 0,.assign (.tmp 68),4,"law.go:26",#[⟨36,.data⟩,⟨34,.chain⟩,⟨0,.phase⟩,⟨1,.phase⟩,⟨2,.phase⟩,⟨3,.phase⟩,⟨4,.phase⟩,⟨5,.phase⟩,⟨6,.phase⟩,⟨7,.phase⟩,⟨8,.phase⟩,⟨9,.phase⟩,⟨10,.phase⟩,⟨11,.phase⟩,⟨12,.phase⟩,⟨13,.phase⟩,⟨14,.phase⟩,⟨15,.phase⟩,⟨16,.phase⟩,⟨17,.phase⟩,⟨18,.phase⟩,⟨19,.phase⟩,⟨20,.phase⟩,⟨21,.phase⟩,⟨22,.phase⟩,⟨23,.phase⟩,⟨24,.phase⟩,⟨25,.phase⟩,⟨26,.phase⟩,⟨27,.phase⟩,⟨28,.phase⟩,⟨29,.phase⟩,⟨30,.phase⟩,⟨31,.phase⟩,⟨32,.phase⟩,⟨33,.phase⟩,⟨34,.phase⟩,⟨35,.phase⟩,⟨36,.phase⟩],none⟩
def z95:Array Oper:=#[FW8OPSq0,FW8OPSq1,FW8OPSq2,FW8OPSq3,FW8OPSq4,FW8OPSq5,FW8OPSq6,FW8OPSq7,FW8OPSq8,FW8OPSq9,FW8OPSq10,FW8OPSq11,FW8OPSq12,FW8OPSq13,FW8OPSq14,FW8OPSq15,FW8OPSq16,FW8OPSq17,FW8OPSq18,FW8OPSq19,FW8OPSq20,FW8OPSq21,FW8OPSq22,FW8OPSq23,FW8OPSq24,FW8OPSq25,FW8OPSq26,FW8OPSq27,FW8OPSq28,FW8OPSq29,FW8OPSq30,FW8OPSq31,FW8OPSq32,FW8OPSq33,FW8OPSq34,FW8OPSq35,FW8OPSq36,FW8OPSq37]
theorem zh2 {Q:Exit->Act->World->Prop} {b d f g i j k l m n q r s u x y B C D E F G H I K L M N O P R T U V X Y Z aa ab ac ad ae af ag ah ai aj ak al am an ao ap aq ar au av aw ax ay az aA aB aC aD:Value} (W:World) (p ba gl cl gt ct:Nat) (A:List Int) (lA:A.length=32) (J:World->Prop) (h0:J W.drew) (hS:∀ w,J w->(fun w:World=>w.cell? ⟨gl,0,none⟩=some (.int .u64 0)/\w.cell? ⟨gl,1,none⟩=some (.int .u64 2)/\w.rangeAt gt 0 (z00 A)/\w.rangeAt ba 0 (z00 A)) w) (c29:∀ w,J w->Calls Tryz.prog 38 #[.pointer (some ⟨p,0,none⟩)] w fun e w'=>e=.returned (.int .i64 2)/\J w') (c34:∀ w,J w->Calls Tryz.prog 34 #[.pointer (some ⟨p,0,none⟩)] w fun e w'=>e=.returned (.int .u64 3)/\J w') (hQ:∀ c (a:Act) (t:Tmp) (v:Value) w,Q (.panic c) (a.put (some t) v) w->Q (.panic c) a w)
  (hfin:∀ (w:World),(J w)->Q .normal {tmps:=#[.bool true,.pointer (some ⟨p,0,none⟩),.pointer (some ⟨ba,0,none⟩),d,.slice (some ⟨gl,0,none⟩) 2 cl,.slice (some ⟨gt,0,none⟩) 1 ct,f,g,i,j,k,l,m,n,q,r,s,u,x,y,B,C,D,E,F,G,H,I,K,L,M,N,.slice (some ⟨gl,0,none⟩) 2 cl,.int .i64 2,.bool true,.bool true,.slice (some ⟨gl,0,none⟩) 2 cl,.pointer (some ⟨gl,0,none⟩),.int .u64 0,.bool true,.bool true,.bool true,.slice (some ⟨gl,0,none⟩) 2 cl,.pointer (some ⟨gl,1,none⟩),.int .u64 2,.bool true,.bool true,.bool true,.slice (some ⟨gt,0,none⟩) 1 ct,.int .i64 1,.bool true,.bool true,.bool true,.slice (some ⟨gt,0,none⟩) 1 ct,.pointer (some ⟨gt,0,none⟩),.agg (z00 A).toArray,.agg (z00 A).toArray,.bool true,.bool true,.bool true,.pointer (some ⟨p,0,none⟩),.int .i64 2,.bool true,.bool true,.bool true,.pointer (some ⟨p,0,none⟩),.int .u64 3,.bool true,.bool true],defers:=[]} w):(Code.region 8 z95 true).wp Tryz.prog Q {tmps:=#[b,.pointer (some ⟨p,0,none⟩),.pointer (some ⟨ba,0,none⟩),d,.slice (some ⟨gl,0,none⟩) 2 cl,.slice (some ⟨gt,0,none⟩) 1 ct,f,g,i,j,k,l,m,n,q,r,s,u,x,y,B,C,D,E,F,G,H,I,K,L,M,N,O,P,R,T,U,V,X,Y,Z,aa,ab,ac,ad,ae,af,ag,ah,ai,aj,ak,al,am,an,ao,ap,aq,ar,au,av,aw,ax,ay,az,aA,aB,aC,aD],defers:=[]} W:=by
 have kst:∀ (w:World),(J w)->wpAnyH Tryz.prog .any z95 Q (fun w:World=>w.cell? ⟨gl,0,none⟩=some (.int .u64 0)/\w.cell? ⟨gl,1,none⟩=some (.int .u64 2)/\w.rangeAt gt 0 (z00 A)/\w.rangeAt ba 0 (z00 A)) 9 #[tt,tt,tt,tt,tt,tt,tt,tt,tt,tt,tt,tt,tt,tt,tt,tt,tt,tt,tt,tt,tt,tt,tt,tt,tt,tt,tt,tt,tt,ff,ff,ff,ff,ff,ff,ff,ff,ff] {tmps:=#[b,.pointer (some ⟨p,0,none⟩),.pointer (some ⟨ba,0,none⟩),d,.slice (some ⟨gl,0,none⟩) 2 cl,.slice (some ⟨gt,0,none⟩) 1 ct,f,g,i,j,k,l,m,n,q,r,s,u,x,y,B,C,D,E,F,G,H,I,K,L,M,N,.slice (some ⟨gl,0,none⟩) 2 cl,.int .i64 2,.bool true,.bool true,.slice (some ⟨gl,0,none⟩) 2 cl,.pointer (some ⟨gl,0,none⟩),.int .u64 0,.bool true,.bool true,.bool true,.slice (some ⟨gl,0,none⟩) 2 cl,.pointer (some ⟨gl,1,none⟩),.int .u64 2,.bool true,.bool true,.bool true,.slice (some ⟨gt,0,none⟩) 1 ct,.int .i64 1,.bool true,.bool true,.bool true,.slice (some ⟨gt,0,none⟩) 1 ct,.pointer (some ⟨gt,0,none⟩),.agg (z00 A).toArray,.agg (z00 A).toArray,.bool true,.bool true,.bool true,.pointer (some ⟨p,0,none⟩),aw,ax,ay,az,aA,aB,aC,aD],defers:=[]} w:=fun  w hp=>by
  refine wpAnyH_ready (rs:=[29]) (by kernel_rfl) (by simp) ?_;refine AllReadyH.cons (o:=FW8OPSq29) rfl (fun KQ hKQ=>?_) ?_
  ·rw [if_pos (by rfl)]
   go_simp;refine (show Calls _ _ _ w (fun e w'=>e=.returned (.int .i64 2)/\(J w')) from c29 _ hp).mono ?_;rintro e w ⟨rfl,hp⟩;refine hKQ.out _ _ (hS _ hp) (fun _=>?_);simp only [List.setIfInBounds_toArray,List.set];have hww:(fun w:World=>w.cell? ⟨gl,0,none⟩=some (.int .u64 0)/\w.cell? ⟨gl,1,none⟩=some (.int .u64 2)/\w.rangeAt gt 0 (z00 A)/\w.rangeAt ba 0 (z00 A)) w:=hS _ hp;refine tkP FW8OPSq30 (.bool true) 30 hQ hww ?_;simp only [List.set];refine tkP FW8OPSq31 (.bool true) 31 hQ hww ?_;simp only [List.set];refine tkP FW8OPSq32 (.bool true) 32 hQ hww ?_;simp only [List.set];refine tkP FW8OPSq33 (.pointer (some ⟨p,0,none⟩)) 33 hQ hww ?_;simp only [List.set];refine wpAnyH_ready (rs:=[34]) (by kernel_rfl) (by simp) ?_;refine AllReadyH.cons (o:=FW8OPSq34) rfl (fun KQ hKQ=>?_) ?_
   ·rw [if_pos (by rfl)]
    go_simp;refine (show Calls _ _ _ w (fun e w'=>e=.returned (.int .u64 3)/\(J w')) from c34 _ hp).mono ?_;rintro e w ⟨rfl,hp⟩;refine hKQ.out _ _ (hS _ hp) (fun _=>?_);simp only [List.setIfInBounds_toArray,List.set];have hww:(fun w:World=>w.cell? ⟨gl,0,none⟩=some (.int .u64 0)/\w.cell? ⟨gl,1,none⟩=some (.int .u64 2)/\w.rangeAt gt 0 (z00 A)/\w.rangeAt ba 0 (z00 A)) w:=hS _ hp;refine tkP FW8OPSq35 (.bool true) 35 hQ hww ?_;simp only [List.set];refine tkP FW8OPSq36 (.bool true) 36 hQ hww ?_;simp only [List.set];refine tkP FW8OPSq37 (.bool true) 37 hQ hww ?_;simp only [List.set];exact wpAnyH_done (by kernel_rfl) (hfin  w hp) _
   exact AllReadyH.nil
  exact AllReadyH.nil
 have hp:=h0;have hww:(fun w:World=>w.cell? ⟨gl,0,none⟩=some (.int .u64 0)/\w.cell? ⟨gl,1,none⟩=some (.int .u64 2)/\w.rangeAt gt 0 (z00 A)/\w.rangeAt ba 0 (z00 A)) W.drew:=hS _ hp;have last:=kst W.drew hp
 have z:wpAnyH Tryz.prog .any z95 Q (fun w:World=>w.cell? ⟨gl,0,none⟩=some (.int .u64 0)/\w.cell? ⟨gl,1,none⟩=some (.int .u64 2)/\w.rangeAt gt 0 (z00 A)/\w.rangeAt ba 0 (z00 A)) 38 #[ff,ff,ff,ff,ff,ff,ff,ff,ff,ff,ff,ff,ff,ff,ff,ff,ff,ff,ff,ff,ff,ff,ff,ff,ff,ff,ff,ff,ff,ff,ff,ff,ff,ff,ff,ff,ff,ff] {tmps:=#[b,.pointer (some ⟨p,0,none⟩),.pointer (some ⟨ba,0,none⟩),d,.slice (some ⟨gl,0,none⟩) 2 cl,.slice (some ⟨gt,0,none⟩) 1 ct,f,g,i,j,k,l,m,n,q,r,s,u,x,y,B,C,D,E,F,G,H,I,K,L,M,N,O,P,R,T,U,V,X,Y,Z,aa,ab,ac,ad,ae,af,ag,ah,ai,aj,ak,al,am,an,ao,ap,aq,ar,au,av,aw,ax,ay,az,aA,aB,aC,aD],defers:=[]} W.drew:=by
  refine tkP FW8OPSq0 (.slice (some ⟨gl,0,none⟩) 2 cl) 0 hQ hww ?_;simp only [List.set];refine tkP FW8OPSq1 (.int .i64 2) 1 hQ hww ?_;simp only [List.set];refine tkP FW8OPSq2 (.bool true) 2 hQ hww ?_;simp only [List.set];refine tkP FW8OPSq3 (.bool true) 3 hQ hww ?_;simp only [List.set];refine tkP FW8OPSq4 (.slice (some ⟨gl,0,none⟩) 2 cl) 4 hQ hww ?_;simp only [List.set];refine tkP FW8OPSq5 (.pointer (some ⟨gl,0,none⟩)) 5 hQ hww ?_;simp only [List.set];refine tkH FW8OPSq6 (.int .u64 0) 6 hQ (Or.inl ⟨by rfl,fun w hw=>by have hx:=hw.1;go_simp⟩) hww ?_;simp only [List.set];refine tkP FW8OPSq7 (.bool true) 7 hQ hww ?_;simp only [List.set];refine tkP FW8OPSq8 (.bool true) 8 hQ hww ?_;simp only [List.set];refine tkP FW8OPSq9 (.bool true) 9 hQ hww ?_;simp only [List.set];refine tkP FW8OPSq10 (.slice (some ⟨gl,0,none⟩) 2 cl) 10 hQ hww ?_;simp only [List.set];refine tkP FW8OPSq11 (.pointer (some ⟨gl,1,none⟩)) 11 hQ hww ?_;simp only [List.set];refine tkH FW8OPSq12 (.int .u64 2) 12 hQ (Or.inl ⟨by rfl,fun w hw=>by have hx:=hw.2.1;go_simp⟩) hww ?_;simp only [List.set];refine tkP FW8OPSq13 (.bool true) 13 hQ hww ?_;simp only [List.set];refine tkP FW8OPSq14 (.bool true) 14 hQ hww ?_;simp only [List.set];refine tkP FW8OPSq15 (.bool true) 15 hQ hww ?_;simp only [List.set];refine tkP FW8OPSq16 (.slice (some ⟨gt,0,none⟩) 1 ct) 16 hQ hww ?_;simp only [List.set];refine tkP FW8OPSq17 (.int .i64 1) 17 hQ hww ?_;simp only [List.set];refine tkP FW8OPSq18 (.bool true) 18 hQ hww ?_
  simp only [List.set];refine tkP FW8OPSq19 (.bool true) 19 hQ hww ?_;simp only [List.set];refine tkP FW8OPSq20 (.bool true) 20 hQ hww ?_;simp only [List.set];refine tkP FW8OPSq21 (.slice (some ⟨gt,0,none⟩) 1 ct) 21 hQ hww ?_;simp only [List.set];refine tkP FW8OPSq22 (.pointer (some ⟨gt,0,none⟩)) 22 hQ hww ?_;simp only [List.set];refine tkH FW8OPSq23 (.agg (z00 A).toArray) 23 hQ (yieldsIf_load_mid (by rfl) 25 (.tmp 54) rfl gt 0 rfl (z00 A) _ (fun w h=>h.2.2.1) Tryz.underlying25 rfl (z0g lA)) hww ?_;simp only [List.set];refine tkH FW8OPSq24 (.agg (z00 A).toArray) 24 hQ (yieldsIf_load_mid (by rfl) 25 (.tmp 2) rfl ba 0 rfl (z00 A) _ (fun w h=>h.2.2.2) Tryz.underlying25 rfl (z0g lA)) hww ?_;simp only [List.set];refine tkH FW8OPSq25 (.bool true) 25 hQ (Or.inl ⟨by rfl,fun w hw=>z08 (zfK lA _ _ w)⟩) hww ?_;simp only [List.set];refine tkP FW8OPSq26 (.bool true) 26 hQ hww ?_;simp only [List.set];refine tkP FW8OPSq27 (.bool true) 27 hQ hww ?_;simp only [List.set];refine tkP FW8OPSq28 (.pointer (some ⟨p,0,none⟩)) 28 hQ hww ?_;simp only [List.set];exact last
 exact wp_region_held_drew (S:=(fun w:World=>w.cell? ⟨gl,0,none⟩=some (.int .u64 0)/\w.cell? ⟨gl,1,none⟩=some (.int .u64 2)/\w.rangeAt gt 0 (z00 A)/\w.rangeAt ba 0 (z00 A))) (by kernel_rfl) hww (fun _=>z)
end Go.Proofs.YtlbcnaenhghieaaGreatDoor
namespace Go.Proofs.YtlbcnaenhghieaaGreatDoor
open Go.RowKit Go.Maps
set_option maxRecDepth 100000
def HONE:List Int:=1 :: List.replicate 31 0
def HTWO:List Int:=2 :: List.replicate 31 0
def z0G:Nat->List Int:=fun i=>if i=1 then HTWO else HONE
theorem z4O (i:Nat):FISH (z0G i):=by
 unfold z0G;split
 ·exact ⟨rfl,by decide⟩
 ·exact ⟨rfl,by decide⟩
theorem zdX:ATS z0G 3 HONE=[0,2]:=by decide
theorem z96:TWS z0G 3 3=[HONE]:=by decide
theorem z7H:UNL z0G 3=2:=by decide
theorem zi3 {W:World} {B p:Nat} {v:Value} {m:Option Nat} {h:List Int} (hh:z0G 0=h) (H:FIND W B p v m z0G 3):Calls Tryz.prog 33 #[.pointer (some ⟨p,0,none⟩),.agg (z00 h).toArray] W fun e w'=>∃ gl cl,e=.returned (.slice (some ⟨gl,0,none⟩) 2 cl)/\w'.cell? ⟨gl,0,none⟩=some (.int .u64 0)/\w'.cell? ⟨gl,1,none⟩=some (.int .u64 2)/\gl<w'.heap.size/\Below W.heap.size W w':=by
 subst hh
 exact (zaA H (by omega) (z4O 0)).mono (by
  rintro e w' ⟨a,c,rfl,h1,h2⟩;rw [show z0G 0=HONE from rfl,zdX] at h1 ⊢;rcases h1.2 with ⟨_,e⟩ | ⟨g,cap,cur,e,_,hg,_⟩
  ·cases e
  ·cases e
   refine ⟨g,_,rfl,?_,?_,(Array.getElem?_eq_some_iff.1 hg).1,h2⟩
   ·rw [h1.cellAt 0 (by decide)];rfl
   ·rw [h1.cellAt 1 (by decide)];rfl)
theorem zfL {W:World} {B p:Nat} {v:Value} {m:Option Nat} {h:List Int} (hh:z0G 0=h) (H:FIND W B p v m z0G 3):Calls Tryz.prog 37 #[.pointer (some ⟨p,0,none⟩)] W fun e w'=>∃ gt ct,e=.returned (.slice (some ⟨gt,0,none⟩) 1 ct)/\w'.rangeAt gt 0 (z00 h)/\Below W.heap.size W w':=by
 subst hh
 exact (zcd H (by omega)).mono (by
  rintro e w' ⟨a,c,rfl,h1,h2⟩;rw [z96] at h1 ⊢;rcases h1.2 with ⟨_,e⟩ | ⟨g,cap,cur,e,_,hg,_⟩
  ·cases e
  ·cases e
   refine ⟨g,_,rfl,fun j u hj=>?_,h2⟩
   have hj2:j<32:=by
    have:=(List.getElem?_eq_some_iff.1 hj).1;simpa [z00,(z4O 0).1] using this
   rw [Nat.zero_add,h1.cellAt j (by simpa using hj2)];rw [show z0G 0=HONE from rfl] at hj;simpa using hj)
theorem z97 {W:World} {B p n:Nat} {v:Value} {m:Option Nat} {h:List Int} (z:Int) (H:FIND W B p v m z0G n) (hn:n<3) (hh:z0G n=h) (hz:(n:Int)=z):Calls Tryz.prog 9 #[.pointer (some ⟨p,0,none⟩),.agg (z00 h).toArray] W fun e w'=>∃ v' m',e=.returned (.int .u64 z)/\FIND w' B p v' m' z0G (n+1)/\FSTP W w' p v m v' m':=by
 subst hh hz;exact z8m H (z4O n) (by omega)
theorem FSTP.has {w w':World} {p k:Nat} {v v':Value} {m m':Option Nat} {cs:Array Value} {t:TypeId} (h:FSTP w w' p v m v' m') (hk:Has w k cs t) (hf:¬ FFT p v m k):Has w' k cs t:=(h.block k hk.lt hf).trans hk
structure AWS (w W:World) (p ba n:Nat) (A C:List Int) (v:Value) (m:Option Nat):Prop where
 find:FIND W p p v m z0G n
 one:Has W ba (z00 A).toArray 25
 two:Has W (ba+1) (z00 C).toArray 25
 bel:Below p w W
 foot:∀ k,FFT p v m k->k=p\/ba+2<=k
 lt:p<ba
theorem AWS.step {w W W':World} {p ba n n':Nat} {A C:List Int} {v v':Value} {m m':Option Nat} (h:AWS w W p ba n A C v m) (hF:FIND W' p p v' m' z0G n') (hS:FSTP W W' p v m v' m'):AWS w W' p ba n' A C v' m':=by
 have hl:=h.lt;have h2:=h.two.lt;refine ⟨hF,hS.has h.one fun e=>?_,hS.has h.two fun e=>?_,⟨hS.os.trans h.bel.os,hS.tape.trans h.bel.tape,hS.output.trans h.bel.output,Nat.le_trans h.bel.size hS.size,fun k hk=>?_⟩,fun k e=>?_,hl⟩
 ·rcases h.foot _ e with c | c <;> omega
 ·rcases h.foot _ e with c | c <;> omega
 ·exact (hS.block k (by have:=h.find.box.lt;omega) (fun e=>by have:=(h.find.lt k e).1;omega)).trans (h.bel.block k hk)
 ·rcases hS.foot k e with c | c
  ·exact h.foot k c
  ·exact .inr (by omega)
theorem AWS.keep {w W W':World} {p ba n:Nat} {A C:List Int} {v:Value} {m:Option Nat} (h:AWS w W p ba n A C v m) (hb:Below W.heap.size W W'):AWS w W' p ba n A C v m:=h.step (h.find.keep hb) (FSTP.of_below hb)
theorem z4e {ops:Array Oper} {rest:List Oper} {o:Oper} {a:Act} {w:World} {Q:Exit->Act->World->Prop} (hw:Region.wanted o (yielded ops a.tmps)=true) (ty:TypeId) (x:Operand) (ho:o.op=.load ty x)
  (b off:Nat) (hx:a.eval x=.pointer (some ⟨b,off,none⟩)) (cs:List Value) (d:TypeDesc) (hc:w.rangeAt b off cs) (hu:Tryz.prog.underlying ty=some d) (hd:d.isRow=true) (hi:(Tryz.prog.info? ty).map (·.size)=some cs.length)
  (h:wpList Tryz.prog ops Q rest (a.put o.dst (.agg cs.toArray)) w):wpList Tryz.prog ops Q (o :: rest) a w:=by
 simp only [wpList];rw [if_pos hw];exact .inl (wp_load_mid ty x ho b off hx cs d hc hu hd hi h)
theorem z6p {ops:Array Oper} {rest:List Oper} {o:Oper} {a:Act} {w:World} {Q:Exit->Act->World->Prop} (hg:o.guard=none) {x:Operand} {z:Int} {h:List Int} (ho:o.op=.build 25 #[(0,x)]) (hx:a.eval x=.int .u8 z) (hb:Tryz.prog.built 25 [(0,.int .u8 z)]=some (z00 h).toArray)
  (hh:wpList Tryz.prog ops Q rest (a.put o.dst (.agg (z00 h).toArray)) w):wpList Tryz.prog ops Q (o :: rest) a w:=by
 have e:Tryz.prog.built 25 ((#[(0,x)]:Array (Nat × Operand)).map fun (i,x)=>(i,a.eval x)).toList=some (z00 h).toArray:=by
  simp only [List.map_toArray,List.map_cons,List.map_nil,hx];exact hb
 refine wpList_build hg 25 _ ho (by rw [e];rfl) ?_;rw [e];exact hh
theorem zce (w:World):Calls Tryz.prog 16 #[] w fun e w'=>e=.returned (.bool true)/\Below w.heap.size w w':=by
 have hn:=z8k z0G w;have hb1:Tryz.prog.built 25 [(0,.int .u8 1)]=some (z00 HONE).toArray:=by kernel_rfl
 have hb2:Tryz.prog.built 25 [(0,.int .u8 2)]=some (z00 HTWO).toArray:=by kernel_rfl
 have hz:=zd1;go_enter Tryz.func16,Tryz.ntmps16;go_wp2_with fail
 refine hn.mono ?_;rintro e w1 ⟨rfl,F1,bl1⟩;clear hn;obtain ⟨p,hp⟩:∃ p,w.heap.size=p:=⟨_,rfl⟩
 have HP:Aside (w.heap.size=p):=hp;rw [hp] at F1 ⊢;obtain ⟨ba,hba⟩:∃ b,w1.heap.size=b:=⟨_,rfl⟩
 have hpa:p<ba:=by have:=F1.box.lt;omega
 obtain ⟨wa,hwa⟩:∃ wa,(w1.alloc (.cells ZARR 25)).alloc (.cells ZARR 25)=wa:=⟨_,rfl⟩
 have ka:Has wa ba (z00 ZND).toArray 25:=by rw [<-hwa,<-hba];exact (Has.new _ _ _).alloc _
 have kb:Has wa (ba+1) (z00 ZND).toArray 25:=by rw [<-hwa];exact Has.at _ _ _ (by simp [hba])
 have s1:=z4v ka (y:=HONE) rfl rfl;have ka2:Has (wa.setRow ba (z00 HONE).toArray) ba (z00 HONE).toArray 25:=ka.row _;have kb2:Has (wa.setRow ba (z00 HONE).toArray) (ba+1) (z00 ZND).toArray 25:=kb.row_other (by omega) _;have s2:=z4v kb2 (y:=HTWO) rfl rfl;obtain ⟨w2,hw2⟩:∃ w2,(wa.setRow ba (z00 HONE).toArray).setRow (ba+1) (z00 HTWO).toArray=w2:=⟨_,rfl⟩
 have ka3:Has w2 ba (z00 HONE).toArray 25:=by rw [<-hw2];exact ka2.row_other (by omega) _
 have kb3:Has w2 (ba+1) (z00 HTWO).toArray 25:=by rw [<-hw2];exact kb2.row _
 rw [hw2] at s2
 have bl2:Below ba w1 w2:=by
  rw [<-hw2,<-hwa];exact z4w (z4w (((Below.refl _ _).alloc (by omega) _).alloc (by simp;omega) _) (by omega)) (by omega)
 have F2:FIND w2 p p (.slice none 0 0) none z0G 0:=F1.keep (by rw [hba];exact bl2);have L1:Aside (HONE.length=32/\HTWO.length=32):=⟨rfl,rfl⟩
 have HB:Aside (Below p w w2):=by
  have:=bl1.trans (bl2.mono (by omega));rwa [hp] at this
 have q1:(z00 HONE).length=32:=rfl;have q2:(z00 HTWO).length=32:=rfl;have e1:z0G 0=HONE:=rfl;have e2:z0G 1=HTWO:=rfl;have e3:z0G 2=HONE:=rfl
 have hN:Aside (∀ k,¬ FFT p (.slice none 0 0) none k\/k=p):=fun k=>by
  by_cases c:k=p
  ·exact .inr c
  ·exact .inl (by rintro (e | e | e) <;> first | exact c e | cases e)
 clear ka kb ka2 kb2 F1 bl1 bl2 hp;generalize HONE=A at *
 generalize HTWO=C at *
 generalize ZARR=Z at *
 go_wp2_with (first
  | (refine z6p rfl rfl rfl hb1 ?_)
  | (refine z6p rfl rfl rfl hb2 ?_)
  | (refine wpList_load_row rfl 25 (.tmp 2) rfl ba rfl 25 (z00 A).toArray (0,0) _ ka3 Tryz.underlying25 rfl (z0V L1.out.1) ?_)
  | fail)
 have S0:AWS w w2 p ba 0 A C (.slice none 0 0) none:=⟨F2,ka3,kb3,HB.out,fun k h=>(by rcases h with e | e | e <;> first | exact .inl e | cases e),hpa⟩
 have c0:=z97 0 S0.find (by omega) e1 rfl;clear F2 HB hN s1 s2 hw2 hwa hba ka3 kb3 hz hb1 hb2 q1 q2;refine c0.mono ?_;rintro e w3 ⟨v3,m3,rfl,F3,T3⟩;have S3:=S0.step F3 T3;have r3:=S3.two;have c3:=z97 1 S3.find (by omega) e2 rfl;clear c0 S0 F3 T3 hpa
 go_wp2_with (first
  | (refine z4e (by rfl) 25 (.tmp 3) rfl (ba+1) 0 rfl (z00 C) _ (z0s r3) Tryz.underlying25 rfl (z0g L1.out.2) ?_)
  | fail)
 refine c3.mono ?_;rintro e w4 ⟨v4,m4,rfl,F4,T4⟩;have S4:=S3.step F4 T4;have r4:=S4.one;have c4:=z97 2 S4.find (by omega) e3 rfl;clear c3 S3 F4 T4 r3
 go_wp2_with (first
  | (refine z4e (by rfl) 25 (.tmp 2) rfl ba 0 rfl (z00 A) _ (z0s r4) Tryz.underlying25 rfl (z0g L1.out.1) ?_)
  | fail)
 refine c4.mono ?_;rintro e w5 ⟨v5,m5,rfl,F5,T5⟩;have S5:=S4.step F5 T5;have r5:=S5.one;have c5:=zi3 e1 S5.find;clear c4 S4 F5 T5 r4
 go_wp2_with (first
  | (refine wpList_load_row rfl 25 (.tmp 2) rfl ba rfl 25 (z00 A).toArray (0,0) _ r5 Tryz.underlying25 rfl (z0V L1.out.1) ?_)
  | fail)
 refine c5.mono ?_;rintro e w6 ⟨gl,cl,rfl,x0,x1,hgl,bl6⟩;have S6:=S5.keep bl6;have c6:=zfL e1 S6.find;clear c5 S5 bl6 r5;go_wp2_with fail
 refine c6.mono ?_;rintro e w7 ⟨gt,ct,rfl,xr,bl7⟩;have S7:=S6.keep bl7;have y0:w7.cell? ⟨gl,0,none⟩=some (.int .u64 0):=(bl7.cell (p:=⟨gl,0,none⟩) hgl).trans x0;have y1:w7.cell? ⟨gl,1,none⟩=some (.int .u64 2):=(bl7.cell (p:=⟨gl,1,none⟩) hgl).trans x1;clear c6 S6 bl7 x0 x1 hgl;go_upto_region 8 with fail
 refine zh2 w7 p ba gl cl gt ct A L1.out.1 (fun W=>W=w7.drew) rfl ?_ ?_ ?_ (fun _ _ _ _ _ h=>h) ?_
 ·rintro W rfl
  exact ⟨y0,y1,xr,z0s S7.one⟩
 ·rintro W rfl
  have h:=z9z (S7.keep ((Below.refl _ _).drew)).find;rw [z7H] at h;exact h.mono (by rintro e w' ⟨rfl,rfl⟩;exact ⟨rfl,rfl⟩)
 ·rintro W rfl
  exact (z7e (S7.keep ((Below.refl _ _).drew)).find (by omega)).mono (by rintro e w' ⟨rfl,rfl⟩;exact ⟨rfl,rfl⟩)
 ·rintro W rfl
  have Z:Aside (Below w.heap.size w w7.drew):=by
   have:=S7.bel.drew;rw [<-HP.out] at this;exact this
  clear S7 y0 y1 xr;go_wp2;go_ret;exact ⟨rfl,Z.out⟩
end Go.Proofs.YtlbcnaenhghieaaGreatDoor
namespace Go.Proofs.YtlbcnaenhghieaaGreatDoor
set_option linter.unusedSimpArgs false
open Go.RowKit
set_option maxRecDepth 100000
end Go.Proofs.YtlbcnaenhghieaaGreatDoor
namespace Go.Proofs.YtlbcnaenhghieaaGreatDoor
open Go.RowKit
set_option maxRecDepth 100000
structure ASK (w w':World) (sb:Nat) (v:Value):Prop where
 os:w'.os=w.os
 tape:w'.tape=w.tape
 output:w'.output=w.output
 size:w.heap.size<=w'.heap.size
 block:∀ k,k<w.heap.size->k≠sb->some k≠v.ownBlock->w'.heap[k]?=w.heap[k]?
theorem ASK.own {w w':World} {sb:Nat} {v:Value} (h:ASK w w' sb v) {B:Nat} {t:TypeId} {s:Nat} {u:Value} {n:Nat} {xs:List Value} (ho:w.ownsRow B t s u n xs) (h1:u.ownBlock≠some sb) (h2:∀ k,u.ownBlock=some k->v.ownBlock≠some k):w'.ownsRow B t s u n xs:=
 z0J ho fun k hk=>h.block k (ho.lt k hk).2 (fun e=>h1 (by rw [hk,e])) (fun e=>h2 k hk e.symm)
theorem zh3 {S:List (Nat × Nat)} (h:∀ s∈S,Node s.1 s.2):∀ p∈PLCS S,p<2 ^ 64:=fun p hp=>by
 obtain ⟨s,hs,rfl⟩:=List.mem_map.1 hp;have:=(h s hs).lt;omega
theorem zhI (i n:Nat):∀ p∈(PLA i n).2,p<2 ^ 64:=by
 unfold PLA;split
 ·simp
 ·split
  ·simp
  ·exact zh3 fun s hs=>((zeu (by omega) (by omega)).1 s hs).1
def SLA (a:Option Addr) (c k:Nat):Option Addr:=match a with
 | none=>none
 | some ad=>if c=k then some ad else some ⟨ad.block,ad.off+k*32,none⟩
theorem Flat.behind {w:World} {a:Option Addr} {n c:Nat} {l:List Int} (h:Flat w a n l) (k:Nat) (hk:k<=n) (hc:n<=c):Flat w (SLA a c k) (n - k) (l.drop (32*k)):=by
 refine ⟨by rw [List.length_drop,h.1];omega,fun h0=>?_,fun x hx=>h.2.2 x (List.mem_of_mem_drop hx)⟩;obtain ⟨b,o,rfl,hb,hcs⟩:=h.2.1 (by omega);have hck:¬ c=k:=by omega
 refine ⟨b,o+k*32,by simp [SLA,hck],hb,fun j hj=>?_⟩;rw [show o+k*32+j=o+(32*k+j) by omega,hcs (32*k+j) (by omega)];congr 2
 rw [List.getD_eq_getElem?_getD,List.getD_eq_getElem?_getD,List.getElem?_drop]
end Go.Proofs.YtlbcnaenhghieaaGreatDoor
namespace Go.Proofs.YtlbcnaenhghieaaGreatDoor
set_option maxRecDepth 100000
def UNR (h k:Nat) (L:List Nat):Prop:=RISES L/\∀ x∈L,k*2 ^ h<=x/\x<(k+1)*2 ^ h
theorem UNR.leaf {k x:Nat} {l:List Nat} (h:UNR 0 k (x :: l)):l=[]:=by
 cases l with
 | nil=>rfl
 | cons y m=>
   have h1:=h.1 0 1 x y (by omega) rfl rfl;have h2:=h.2 x (by simp);have h3:=h.2 y (by simp);simp at h2 h3;omega
def HSS (n:Nat) (l:List Int):Prop:=l.length=32*n/\∀ x∈l,0<=x/\x<=255
theorem HSS.rest {n:Nat} {l:List Int} (h:HSS n l):HSS (n - 1) (l.drop 32):=⟨by rw [List.length_drop,h.1];omega,fun x hx=>h.2 x (List.mem_of_mem_drop hx)⟩
end Go.Proofs.YtlbcnaenhghieaaGreatDoor
namespace Go.Proofs.YtlbcnaenhghieaaGreatDoor
open Go.RowKit
set_option maxRecDepth 100000
def BUT (bc:Nat) (w w':World):Prop:=(∀ q,q<w.heap.size->q≠bc->w'.heap[q]?=w.heap[q]?)/\Below bc w w'
theorem BUT.refl (bc:Nat) (w:World):BUT bc w w:=⟨fun _ _ _=>rfl,Below.refl _ _⟩
theorem BUT.trans {bc:Nat} {w w1 w2:World} (h:BUT bc w w1) (h':BUT bc w1 w2):BUT bc w w2:=
 ⟨fun q hq hne=>(h'.1 q (Nat.lt_of_lt_of_le hq h.2.size) hne).trans (h.1 q hq hne),h.2.trans h'.2⟩
theorem BUT.of_below {bc:Nat} {w w':World} (hb:Below w.heap.size w w') (hc:bc<=w.heap.size):BUT bc w w':=⟨fun q hq _=>hb.block q hq,hb.mono hc⟩
theorem Flat.but {bc:Nat} {w w':World} {a:Option Addr} {n:Nat} {l:List Int} (h:Flat w a n l) (hb:BUT bc w w') (ha:∀ x,a=some x->x.block≠bc):Flat w' a n l:=by
 refine ⟨h.1,fun h0=>?_,h.2.2⟩;obtain ⟨b,o,e,hlt,hc⟩:=h.2.1 h0;exact ⟨b,o,e,Nat.lt_of_lt_of_le hlt hb.2.size,fun j hj=>(World.cell?_of_block (w:=w) (by exact hb.1 b hlt (ha _ e))).trans (hc j hj)⟩
end Go.Proofs.YtlbcnaenhghieaaGreatDoor
namespace Go.Proofs.YtlbcnaenhghieaaGreatDoor
open Go.RowKit
end Go.Proofs.YtlbcnaenhghieaaGreatDoor
namespace Go.Proofs.YtlbcnaenhghieaaGreatDoor
open Go.RowKit
set_option maxRecDepth 100000
end Go.Proofs.YtlbcnaenhghieaaGreatDoor
