/- Texts of ClashBlocks, one behind the other: ClashAwake, HashConcat, HashChunk, HashInputsPlain. -/
import Derived.Lib.AppendZeros
import Derived.RangeFuncBox
import Derived.RangeFuncLeaves
import Derived.RangeFuncCalls
import Derived.RangeFuncNested
import Derived.Shelf.Abstract
import Derived.Shelf.RegionOpen
import Derived.WalkKit
import Derived.OwnWalkIn
import Derived.TacticsInMore
import Derived.LoopNIn
import Derived.LoopIn
import Derived.Maps.AppendAt
import Derived.Sort.CutIn
import Derived.Test.YtbmjoiiagldklaaDoorClashBlocksP11
import Derived.Test.YtbmjoiiagldklaaDoorClashBlocksP15
import Derived.Test.YtbmjoiiagldklaaDoorClashBlocksP16
import Derived.Test.YtbmjoiiagldklaaDoorClashBlocksP26
import Derived.Test.YtbmjoiiagldklaaDoorClashBlocksP27
namespace Go.Proofs.YtbmjoiiagldklaaDoor.HX
open Go.RowKit
set_option maxRecDepth 100000
theorem z9S (w:World) (x:Nat) (hx:x<256):Text (w.alloc (.cells #[.int .u8 x] 5)) (some ⟨w.heap.size,0,none⟩) 1 [x]:=by
  refine ⟨rfl,fun _=>⟨w.heap.size,0,rfl,by simp,fun i hi=>?_⟩,fun y hy=>by simp at hy;omega⟩
  obtain rfl:i=0:=by omega
  rw [World.cell?_alloc_at _ _ _ _ rfl]
  rfl
theorem zcx (w:World) (x y z:Nat) (hx:x<256) (hy:y<256) (hz:z<256):Text (w.alloc (.cells #[.int .u8 x,.int .u8 y,.int .u8 z] 5)) (some ⟨w.heap.size,0,none⟩) 3 [x,y,z]:=by
  refine ⟨rfl,fun _=>⟨w.heap.size,0,rfl,by simp,fun i hi=>?_⟩,fun u hu=>by simp at hu;omega⟩
  rw [World.cell?_alloc_at _ _ _ _ rfl]
  have e:i=0∨i=1∨i=2:=by omega
  rcases e with rfl | rfl | rfl <;> rfl
theorem zcy (i:Nat) (L:List Nat) (h1:i=1142→L=[118,4,1]) (h2:L≠[0]):(((List.range 32).all fun i=>z0e 1 L i == z0e 1 [0] i)=true→z1W 1 [0] L=true)∧(i=1142→((List.range 32).all fun i=>z0e 1 L i == z0e 1 [0] i)=true):=by
  refine ⟨fun h=>?_,fun h=>?_⟩
  · rw [z57 1 (fun e=>h2 e.symm),List.all_eq_true]
    intro j hj
    have:=List.all_eq_true.1 h j hj
    simp only [beq_iff_eq] at this ⊢
    exact this.symm
  · rw [h1 h]
    exact ze3
theorem z8p (d:Int) (l:List Nat):∃ F:Nat→Nat,z0e d l=F:=⟨_,rfl⟩
theorem zat (i:Nat) (L:List Nat) (h1:i=1142→L=[118,4,1]) (h2:L≠[0]) (F1 F2:Nat→Nat) (e1:z0e 1 L=F1) (e2:z0e 1 [0]=F2):∃ r:Bool,(∀ w,(Op.equalIn 10000 26 (.agg (UARR .u8 32 F1)) (.agg (UARR .u8 32 F2))).run Tryd.prog w=.ok r w)∧Aside ((r=true→z1W 1 [0] L=true)∧(i=1142→r=true)):=by
  subst e1 e2
  exact ⟨_,fun w=>z1p _ _ w,zcy i L h1 h2⟩
set_option maxHeartbeats 4000000 in
theorem z8q (w:World) (hT:Tabled w):Calls Tryd.prog 11 #[] w fun e w'=>e=.returned (.bool true)∧Below w.heap.size w w':=by
  have t1:Text (w.alloc (.cells #[.int .u8 0] 5)) (some ⟨w.heap.size,0,none⟩) 1 [0]:=z9S w 0 (by decide)
  have b1:Below w.heap.size w (w.alloc (.cells #[.int .u8 0] 5)):=(Below.refl _ _).alloc (Nat.le_refl _) _
  have t2:Text ((w.alloc (.cells #[.int .u8 0] 5)).alloc (.cells #[.int .u8 0] 5)) (some ⟨w.heap.size,0,none⟩) 1 [0]:=t1.below ((Below.refl _ _).alloc (Nat.le_refl _) _)
  have t3:Text ((w.alloc (.cells #[.int .u8 0] 5)).alloc (.cells #[.int .u8 0] 5)) (some ⟨w.heap.size+1,0,none⟩) 1 [0]:=by
    have h:=z9S (w.alloc (.cells #[.int .u8 0] 5)) 0 (by decide)
    rw [show (w.alloc (.cells #[.int .u8 0] 5)).heap.size=w.heap.size+1 by simp] at h
    exact h
  have b2:Below w.heap.size w ((w.alloc (.cells #[.int .u8 0] 5)).alloc (.cells #[.int .u8 0] 5)):=b1.alloc b1.size _
  have hsz:((w.alloc (.cells #[.int .u8 0] 5)).alloc (.cells #[.int .u8 0] 5)).heap.size=w.heap.size+2:=by simp
  have c1:=z5v 1 (some ⟨w.heap.size,0,none⟩) 1 1 [0] (some ⟨w.heap.size+1,0,none⟩) 1 1 [0] _ t2 (by decide) (fun x hx=>by cases hx;rw [hsz];simp) (by decide) t3 (by decide) (fun x hx=>by cases hx;rw [hsz];simp) (by decide) (hT.below b2)
  have z0:=z9A 1 [0]
  generalize z1W 1 [0] [0]=z at *
  subst z0
  have R:Aside (Tabled w∧Text ((w.alloc (.cells #[.int .u8 0] 5)).alloc (.cells #[.int .u8 0] 5)) (some ⟨w.heap.size,0,none⟩) 1 [0]∧Below w.heap.size w ((w.alloc (.cells #[.int .u8 0] 5)).alloc (.cells #[.int .u8 0] 5))∧((w.alloc (.cells #[.int .u8 0] 5)).alloc (.cells #[.int .u8 0] 5)).heap.size=w.heap.size+2):=⟨hT,t2,b2,hsz⟩
  clear t1 b1 t2 t3 b2 hsz hT
  obtain ⟨F2,hF2⟩:=z8p 1 [0]
  go_enter Tryd.func11,Tryd.ntmps11
  go_wp2_with fail
  refine c1.mono ?_
  rintro e w1 ⟨rfl,hb1⟩
  clear c1
  have S:Aside (Tabled w∧Text w1 (some ⟨w.heap.size,0,none⟩) 1 [0]∧Below w.heap.size w w1∧w.heap.size<w1.heap.size):=⟨R.out.1,R.out.2.1.below hb1,R.out.2.2.1.trans (hb1.mono R.out.2.2.1.size),by have:=hb1.size;have:=R.out.2.2.2;omega⟩
  clear R hb1
  go_wp2_with fail
  obtain ⟨N0,hN0⟩:∃ N0:Nat,N0=1141:=⟨_,rfl⟩
  go_loopg [2,3] N0 (fun r s2 s3 wx=>∃ i:Nat,i+r=1142∧1≤i∧s3=.int .i64 i∧Aside (Below w1.heap.size w1 wx))
  case atStart=>exact ⟨1,by omega,by omega,rfl,Below.refl _ _⟩
  case round=>
    obtain ⟨i,hir,hi1,rfl,A⟩:=hrel
    have hlt:(i:Int)<100000:=by omega
    have e1:((i % 256:Nat):Int)=(i:Int) % 256:=by omega
    have e2:((i / 256:Nat):Int)=(i:Int) / 256:=by omega
    have tx:=zcx wr (i % 256) (i / 256) 1 (by omega) (by omega) (by decide)
    rw [e1,e2] at tx
    have bx:Below wr.heap.size wr (wr.alloc (.cells #[.int .u8 ((i:Int) % 256),.int .u8 ((i:Int) / 256),.int .u8 ((1:Nat):Int)] 5)):=(Below.refl _ _).alloc (Nat.le_refl _) _
    have sx:(wr.alloc (.cells #[.int .u8 ((i:Int) % 256),.int .u8 ((i:Int) / 256),.int .u8 ((1:Nat):Int)] 5)).heap.size=wr.heap.size+1:=by simp
    have hq1:i=1142→[i % 256,i / 256,1]=[118,4,1]:=fun h=>by subst h;rfl
    have Sw:Aside (Below w.heap.size w wr∧w.heap.size<wr.heap.size):=⟨S.out.2.2.1.trans (A.out.mono S.out.2.2.1.size),Nat.lt_of_lt_of_le S.out.2.2.2 A.out.size⟩
    have HL:Aside ((i=1142→[i % 256,i / 256,1]=[118,4,1])∧[i % 256,i / 256,1]≠[0]):=⟨hq1,by simp⟩
    generalize [i % 256,i / 256,1]=L at *
    have ca:=sum9 1 ((wr.alloc (.cells #[.int .u8 ((i:Int) % 256),.int .u8 ((i:Int) / 256),.int .u8 ((1:Nat):Int)] 5)).alloc (.cells #[.slice (some ⟨wr.heap.size,0,none⟩) 3 3] 30)) (wr.heap.size+1) (some ⟨wr.heap.size,0,none⟩) 3 3 L (Has.at _ _ _ sx.symm) (tx.below ((Below.refl _ _).alloc (Nat.le_refl _) _)) (by decide) (fun x hx=>by cases hx;simp;omega) (by decide) (S.out.1.below ((Sw.out.1.trans (bx.mono Sw.out.1.size)).alloc (by rw [sx];have:=Sw.out.2;omega) _))
    obtain ⟨F1,hF1⟩:=z8p 1 L
    rw [hF1] at ca
    obtain ⟨wa,hwa⟩:∃ wa,(wr.alloc (.cells #[.int .u8 ((i:Int) % 256),.int .u8 ((i:Int) / 256),.int .u8 ((1:Nat):Int)] 5)).alloc (.cells #[.slice (some ⟨wr.heap.size,0,none⟩) 3 3] 30)=wa:=⟨_,rfl⟩
    have ba:Below w.heap.size w wa:=by rw [← hwa];exact (Sw.out.1.trans (bx.mono Sw.out.1.size)).alloc (by rw [sx];have:=Sw.out.2;omega) _
    have br:Below wr.heap.size wr wa:=by rw [← hwa];exact bx.alloc (by rw [sx];omega) _
    have ta:Text wa (some ⟨wr.heap.size,0,none⟩) 3 L:=by rw [← hwa];exact tx.below ((Below.refl _ _).alloc (Nat.le_refl _) _)
    have ga:wr.heap.size<wa.heap.size:=by rw [← hwa];simp;omega
    clear tx bx sx hq1
    go_wp2_with fail
    rw [show (Value.int IntKind.u8 1)=.int .u8 ((1:Nat):Int) from rfl]
    rw [hwa] at ca ⊢
    refine ca.mono ?_
    rintro e w2 ⟨rfl,hb2⟩
    clear ca hwa
    have b2:Below w.heap.size w w2:=ba.trans (hb2.mono ba.size)
    have cb:=sum9 1 (w2.alloc (.cells #[.slice (some ⟨w.heap.size,0,none⟩) 1 1] 30)) w2.heap.size (some ⟨w.heap.size,0,none⟩) 1 1 [0] (Has.new _ _ _) ((((S.out.2.1.below A.out).below br).below hb2).below ((Below.refl _ _).alloc (Nat.le_refl _) _)) (by decide) (fun x hx=>by cases hx;simp;have:=Sw.out.2;have:=hb2.size;omega) (by decide) (S.out.1.below (b2.alloc b2.size _))
    rw [hF2] at cb
    have M:Aside (Below w.heap.size w w2∧Text w2 (some ⟨wr.heap.size,0,none⟩) 3 L∧wr.heap.size<w2.heap.size∧Text w2 (some ⟨w.heap.size,0,none⟩) 1 [0]∧Below wr.heap.size wr w2):=⟨b2,ta.below hb2,Nat.lt_of_lt_of_le ga hb2.size,((S.out.2.1.below A.out).below br).below hb2,br.trans (hb2.mono br.size)⟩
    clear ba br ta ga hb2 b2
    go_wp2_with fail
    refine cb.mono ?_
    rintro e w3 ⟨rfl,hb3⟩
    clear cb
    have M3:Aside (Below w.heap.size w w3∧Text w3 (some ⟨wr.heap.size,0,none⟩) 3 L∧wr.heap.size<w3.heap.size∧Text w3 (some ⟨w.heap.size,0,none⟩) 1 [0]∧Below wr.heap.size wr w3):=by
      have hbb:Below w2.heap.size w2 w3:=((Below.refl _ _).alloc (Nat.le_refl _) _).trans (hb3.mono (by simp))
      obtain ⟨m1,m2,m3,m4,m5⟩:=M.out
      exact ⟨m1.trans (hbb.mono m1.size),m2.below hbb,Nat.lt_of_lt_of_le m3 hbb.size,m4.below hbb,m5.trans (hbb.mono m5.size)⟩
    clear M hb3
    obtain ⟨r,hq,HH⟩:=zat i L HL.out.1 HL.out.2 F1 F2 hF1 hF2
    clear hF1
    cases r with
    | true=>
      have ch:=z5v 1 (some ⟨w.heap.size,0,none⟩) 1 1 [0] (some ⟨wr.heap.size,0,none⟩) 3 3 L w3 M3.out.2.2.2.1 (by decide) (fun x hx=>by cases hx;have:=Sw.out.2;have:=M3.out.2.2.1;show w.heap.size<_;omega) (by decide) M3.out.2.1 (by decide) (fun x hx=>by cases hx;exact M3.out.2.2.1) (by decide) (S.out.1.below M3.out.1)
      rw [HH.out.1 rfl] at ch
      clear HH
      go_wp2_with fail
      refine ch.mono ?_
      rintro e w4 ⟨rfl,hb4⟩
      clear ch
      have N:Aside (Below w.heap.size w w4):=M3.out.1.trans (hb4.mono M3.out.1.size)
      clear hb4
      go_wp2
      go_ret
      exact ⟨rfl,N.out⟩
    | false=>
      have hne:i≠1142:=fun h=>by have:=HH.out.2 h;cases this
      have e3:wrap64 ((i:Int)+1)=((i+1:Nat):Int):=by unfold wrap64;omega
      have B:Aside (Below w1.heap.size w1 w3):=A.out.trans (M3.out.2.2.2.2.mono A.out.size)
      obtain ⟨gk',rfl⟩:∃ g,gk=g+1:=⟨gk - 1,by omega⟩
      clear HH
      go_wp2
      go_roundg gk'
      case measure=>omega
      exact ⟨i+1,by omega,by omega,rfl,B.out⟩
end Go.Proofs.YtbmjoiiagldklaaDoor.HX

namespace Go.Proofs.YtbmjoiiagldklaaDoor.HX
open Go.RowKit
set_option maxRecDepth 100000
theorem ze4 (n:Nat) (h0:0<n) (hn:n≤1099511627776) (w:World):Calls Tryd.prog 91 #[.slice none 0 0,.int .i64 (n:Int)] w fun e w'=>
    ∃ g cap,e=.returned (.slice (some ⟨g,0,none⟩) 0 cap)∧w'.ownsRow w.heap.size 5 1 (.slice (some ⟨g,0,none⟩) 0 cap) 0 []∧Below w.heap.size w w':=by
  obtain ⟨i,hi,hz,hs1,hby⟩:=info_parts z0U
  have h1:¬ ((n:Int)<0):=by omega
  have h2:wrap64 ((n:Int))=(n:Int):=by unfold wrap64;omega
  have h3:(n:Int) > 0:=by omega
  have hr:=fun ty=>Lib.run_append_nil_zeros (P:=Tryd.prog) w 30 3 ty 5 i (.int .u8 0) .i64 .i64 Tryd.underlying30 Tryd.underlying3 hi hz n h0 (by omega) (by omega) (by rw [hby];omega)
  have hge:=grownCap_ge w n 0 5
  have hle:=grownCap_le_maxLen w n 0 5 (by simp only [maxLen];omega)
  generalize grownCap w n 0 5=cap at *
  have hcs:(Builtin.zeroCells (Value.int .u8 0).cells n ++ Builtin.zeroCells (Value.int .u8 0).cells (cap - n)).size=cap*1:=by
    rw [Array.size_append,size_zeroCells,size_zeroCells]
    simp [Value.cells]
    omega
  generalize Builtin.zeroCells (Value.int .u8 0).cells n ++ Builtin.zeroCells (Value.int .u8 0).cells (cap - n)=cur at *
  have H:Aside (cap≤maxLen∧cur.size=cap*1):=⟨hle,hcs⟩
  clear hle hcs
  go_enter Tryd.func91,Tryd.ntmps91
  go_wp2_with (at_builtin;refine Lib.wpList_append_run _ rfl _ _ _ _ rfl _ _ rfl rfl _ _ (hr _) ?_)
  go_ret
  refine ⟨w.heap.size,cap,rfl,?_,?_⟩
  · exact World.ownsRow_made w.drew cur cap (Nat.le_refl _) H.out.1 H.out.2
  · exact (Below.refl _ _).drew.alloc (Nat.le_refl _) _
theorem zfv (a b c:Nat) (h:a+b=c) (hc:c≤1099511627776):wrap64 ((a:Int)+(b:Int))=(c:Int):=by unfold wrap64;omega
theorem z9T (i k:Nat) (h:i<k) (hk:k<2 ^ 60):wrap64 ((i:Int)+1)=((i+1:Nat):Int):=by unfold wrap64;omega
theorem ze5 (a:Option Addr) (k c:Nat) (ps:List PART) (w:World) (hP:Parts w a k ps) (hnil:∀ p∈ps,p.a=none→p.c=0) (h0:0<(JOIN ps).length) (hlen:(JOIN ps).length≤1099511627776) (hkk:k<2 ^ 60):Calls Tryd.prog 67 #[.slice a k c] w fun e w'=>
    ∃ v,e=.returned v∧w'.ownsRow w.heap.size 5 1 v (JOIN ps).length (BY (JOIN ps))∧Below w.heap.size w w':=by
  have H:Aside (Parts w a k ps∧(∀ p∈ps,p.a=none→p.c=0)∧0<(JOIN ps).length∧(JOIN ps).length≤1099511627776∧k<2 ^ 60):=⟨hP,hnil,h0,hlen,hkk⟩
  have cg:=ze4 (JOIN ps).length h0 hlen
  clear hP hnil h0 hlen hkk
  go_enter Tryd.func67,Tryd.ntmps67
  go_wp2
  go_loopg [3,11] k (fun r s3 s11 wx=>∃ i:Nat,i+r=k∧s11=.int .i64 i∧s3=.int .i64 ((JOIN (ps.take i)).length:Int)∧w=wx)
  case atStart=>exact ⟨0,by omega,rfl,rfl,rfl⟩
  case round=>
    obtain ⟨i,hir,rfl,rfl,rfl⟩:=hrel
    have hk:ps.length=k:=H.out.1.1
    cases gk with
    | zero=>
      obtain rfl:i=k:=by omega
      rw [List.take_of_length_le (by omega)]
      clear hk hir
      go_wp2_with fail
      refine (cg _).mono ?_
      rintro e w1 ⟨g,cap,rfl,hown,hb1⟩
      clear cg
      have R:Aside (w1.ownsRow w.heap.size 5 1 (.slice (some ⟨g,0,none⟩) 0 cap) 0 []∧Below w.heap.size w w1):=⟨hown,hb1⟩
      clear hown hb1
      go_wp2
      go_loopg [6,27] i (fun r s6 s27 wx=>∃ j:Nat,j+r=i∧s27=.int .i64 j∧Aside (wx.ownsRow w.heap.size 5 1 s6 (JOIN (ps.take j)).length (BY (JOIN (ps.take j)))∧Below w.heap.size w wx))
      case atStart=>exact ⟨0,by omega,rfl,R.out.1,R.out.2⟩
      case round=>
        obtain ⟨j,hjr,rfl,A⟩:=hrel
        have hk:ps.length=i:=H.out.1.1
        cases gk with
        | zero=>
          obtain rfl:j=i:=by omega
          rw [List.take_of_length_le (by omega)] at A
          clear hk hjr
          go_wp2
          go_ret
          exact ⟨_,rfl,A.out.1,A.out.2⟩
        | succ r=>
          have hlt:(j:Int)<(i:Int):=by omega
          obtain ⟨pb,po,rfl,hpb,hcell⟩:=H.out.1.2.1 (by omega)
          obtain ⟨p,hp⟩:∃ p,ps[j]?=some p:=⟨_,List.getElem?_eq_getElem (by omega)⟩
          have hc:=(A.out.2.cell (p:=⟨pb,po+j,none⟩) (by exact hpb)).trans (hcell j p hp)
          obtain ⟨ht,hn,hx⟩:=H.out.1.2.2 p (List.mem_of_getElem? hp)
          have hnp:=H.out.2.1 p (List.mem_of_getElem? hp)
          have hl2:(JOIN (ps.take j)).length+p.n≤1099511627776:=by
            have h1:=z1a ps (j+1)
            rw [List.take_add_one,hp,Option.toList_some,z17,List.length_append,ht.1] at h1
            have:=H.out.2.2.2.1
            omega
          have S:Aside (ps.take (j+1)=ps.take j ++ [p]∧j+(r+1)=i∧(JOIN (ps.take j)).length+p.n≤1099511627776∧Bytes wr p.a p.n (INTS p.l)∧(p.a=none→p.c=0)∧p.l.length=p.n):=⟨by rw [List.take_add_one,hp,Option.toList_some],hjr,hl2,(ht.below A.out.2).bytes,hnp,ht.1⟩
          have e4:=z9T j i (by omega) H.out.2.2.2.2
          clear ht hn hx hnp hl2 hjr hk hp hcell
          go_wp2_with (at_builtin;refine z5B _ rfl (.tmp 31) (.tmp 32) rfl w.heap.size _ (JOIN (ps.take j)).length (INTS (JOIN (ps.take j))) rfl (by exact A.out.1) p.a p.n p.c (INTS p.l) rfl S.out.2.2.2.1 S.out.2.2.2.2.1 ((JOIN (ps.take j)).length+p.n) (INTS (JOIN (ps.take j) ++ p.l)) rfl (by simp [INTS]) (by have:=S.out.2.2.1;omega) A.out.2.size ?_;intro a4 c4 w4 hown4 hgrow4)
          have T:Aside (w4.ownsRow w.heap.size 5 1 (.slice a4 ((JOIN (ps.take j)).length+p.n) c4) (JOIN (ps.take (j+1))).length (BY (JOIN (ps.take (j+1))))∧Below w.heap.size w w4):=by
            rw [S.out.1,z17,List.length_append,S.out.2.2.2.2.2]
            exact ⟨hown4,A.out.2.grown hgrow4 A.out.2.size (fun k e=>(A.out.1.lt k e).1)⟩
          clear hown4 hgrow4
          go_roundg r
          case measure=>exact Nat.lt_succ_self _
          case rel=>exact ⟨j+1,by have:=S.out.2.1;omega,by first | rfl | rw [e4],T.out.1,T.out.2⟩
    | succ r=>
      have hlt:(i:Int)<(k:Int):=by omega
      obtain ⟨pb,po,rfl,hpb,hcell⟩:=H.out.1.2.1 (by omega)
      obtain ⟨p,hp⟩:∃ p,ps[i]?=some p:=⟨_,List.getElem?_eq_getElem (by omega)⟩
      have hc:=hcell i p hp
      obtain ⟨ht,hn,hx⟩:=H.out.1.2.2 p (List.mem_of_getElem? hp)
      have ht1:p.l.length=p.n:=ht.1
      have e1:ps.take (i+1)=ps.take i ++ [p]:=by rw [List.take_add_one,hp,Option.toList_some]
      have hj:(JOIN (ps.take i)).length+p.n=(JOIN (ps.take (i+1))).length:=by rw [e1,z17,List.length_append,ht1]
      have hle:=z1a ps (i+1)
      have hl:=H.out.2.2.2.1
      have e2:=zfv _ _ _ hj (by omega)
      have h3:¬ (((JOIN (ps.take (i+1))).length:Int)<0):=Int.not_lt.2 (Int.natCast_nonneg _)
      have e4:=z9T i k (by omega) H.out.2.2.2.2
      obtain ⟨J,hJ⟩:∃ J,(JOIN (ps.take (i+1))).length=J:=⟨_,rfl⟩
      rw [hJ] at e2 h3
      have S:Aside (i+(r+1)=k∧(JOIN (ps.take (i+1))).length=J):=⟨hir,hJ⟩
      clear ht hn hx ht1 e1 hj hle hl hcell hp hir hk hJ
      go_wp2
      go_roundg r
      case measure=>exact Nat.lt_succ_self _
      case rel=>exact ⟨i+1,by have:=S.out.1;omega,rfl,by rw [S.out.2],rfl⟩
end Go.Proofs.YtbmjoiiagldklaaDoor.HX

namespace Go.Proofs.YtbmjoiiagldklaaDoor.HX
open Go.RowKit Go.Shelf
set_option maxRecDepth 100000
attribute [local go_sem] Oper.semAt_some
def UPTO {α:Type} (f:Nat→α) (k:Nat):List α:=(List.range k).map f
theorem z14 {α:Type} (f:Nat→α) (k:Nat):UPTO f (k+1)=UPTO f k ++ [f k]:=by simp [UPTO,List.range_succ]
theorem z1w {α:Type} (f:Nat→α) (k:Nat):(UPTO f k).length=k:=by simp [UPTO]
def KEEPC (n₀ Bs Bn:Nat) (A B:World):Prop:=Below n₀ A B∧B.cell? ⟨Bs,0,none⟩=A.cell? ⟨Bs,0,none⟩∧B.cell? ⟨Bn,0,none⟩=A.cell? ⟨Bn,0,none⟩
theorem KEEPC.t {n₀ Bs Bn:Nat} {A B C:World} (h:KEEPC n₀ Bs Bn A B) (k:KEEPC n₀ Bs Bn B C):KEEPC n₀ Bs Bn A C:=⟨h.1.trans k.1,k.2.1.trans h.2.1,k.2.2.trans h.2.2⟩
theorem KEEPC.b {n₀ Bs Bn:Nat} {w:World} (hn:n₀≤w.heap.size) (hB:Bs<w.heap.size) (hN:Bn<w.heap.size) (W:World) (l:Nat) (o o':Obj) (hl:w.heap.size≤l) (h:W.heap[l]?=some o) (h1:o.isCells=false) (h2:o.isWalk=false):KEEPC n₀ Bs Bn W (W.putObj l o'):=
  ⟨belowK_b hn W l o o' hl h h1 h2,(belowK_b (Nat.le_refl w.heap.size) W l o o' hl h h1 h2).cell (p:=⟨Bs,0,none⟩) hB,(belowK_b (Nat.le_refl w.heap.size) W l o o' hl h h1 h2).cell (p:=⟨Bn,0,none⟩) hN⟩
def NTH (m:Nat) (hm:0<m) (j:Nat):Fin m:=⟨j % m,Nat.mod_lt _ hm⟩
def z0p (b j:Nat):Value:=.slice (some ⟨b,64*j,none⟩) 64 64
theorem zcz (b M cap K:Nat) (h1:K≤M) (h2:K<cap) (w:World):(Instr.slice 30 (.slice (some ⟨b,0,none⟩) M cap) (some (.int .i64 (K:Int))) none none).run Tryd.prog w=.ok (.slice (some ⟨b,K,none⟩) (M - K) (cap - K)) w:=by
  have c2:(0:Int)≤(K:Int):=by omega
  have c3:(K:Int)≤(M:Int):=by omega
  have c4:¬ cap=K:=by omega
  simp [go_sem,c2,c3,c4,Addr.add]
  omega
theorem zcA (K Z:Nat) (h:K+64=Z) (hZ:Z<2 ^ 41):wrap64 ((K:Int)+64)=(Z:Int):=by unfold wrap64;omega
theorem ze6 (m K Z:Nat) (h:K+64=Z) (hm:Z≤64*m):(64*(m:Int) - (Z:Int)).toNat<(64*(m:Int) - (K:Int)).toNat:=by omega
theorem zau (b M cap K Z:Nat) (hZ:K+64=Z) (h1:Z≤cap) (w:World):(Instr.slice 30 (.slice (some ⟨b,0,none⟩) M cap) (some (.int .i64 (K:Int))) (some (.int .i64 (Z:Int))) (some (.int .i64 (Z:Int)))).run Tryd.prog w=.ok (.slice (some ⟨b,K,none⟩) 64 64) w:=by
  subst hZ
  have c2:(0:Int)≤(K:Int):=by omega
  have c3:(K:Int)≤((K+64:Nat):Int):=by omega
  have c4:((K+64:Nat):Int)≤(cap:Int):=by omega
  rw [run_slice_lhm (P:=Tryd.prog) w 30 _ M cap Tryd.underlying30 .i64 .i64 .i64 _ _ _ c2 c3 (Int.le_refl _) c4]
  have e1:(K:Int).toNat=K:=by omega
  have e2:((K+64:Nat):Int).toNat=K+64:=by omega
  have e3:K+64 - K=64:=by omega
  rw [e1,e2]
  simp [go_sem,Addr.add,e3]
  omega
set_option maxHeartbeats 2000000 in
theorem ze7 (F:Fence) (n:Nat) (hF:F.fn 92) (hro:F.round=none) (hn:1≤n) (l Bs Bn n₀ b m cap:Nat) (hm:0<m) (hcap:64*m≤cap) (hreach:m<2 ^ 30) (J Jx:List (Fin m)→World→Prop)
    (hY:∀ pre x W,J pre W→pre.length<m→YieldAt F (n - 1) Tryd.prog l #[z0p b x.val] W fun e W'=>
      (e=.returned (.bool true)∧J (pre ++ [x]) W'∧KEEPC n₀ Bs Bn W W')∨(e=.returned (.bool false)∧Jx (pre ++ [x]) W'))
    (W:World) (hBs:W.cell? ⟨Bs,0,none⟩=some (.slice (some ⟨b,0,none⟩) (64*m) cap)) (hBn:W.cell? ⟨Bn,0,none⟩=some (.int .i64 64)) (h0:J [] W) (hd:∀ s A,J s A→J s A.drew):
    CallsIn F n Tryd.prog 92 #[.func (.yield l) #[] #[],.pointer (some ⟨Bs,0,none⟩),.pointer (some ⟨Bn,0,none⟩)] W fun e W'=>(∃ v,e=.returned v)∧
      ((∃ ys,ys=UPTO (NTH m hm) m∧J ys W')∨(∃ pre,(∃ k,k≤m∧pre=UPTO (NTH m hm) k)∧Jx pre W')):=by
  refine callsIn_of_wp Tryd.func92 rfl hF ?_ hro
  simp only [Tryd.ntmps92,List.size_toArray,List.length_cons,List.length_nil,Nat.reduceAdd,Nat.reduceSub,Array.replicate_succ,Array.replicate_zero,List.push_toArray,List.append_toArray,List.nil_append,List.cons_append]
  gi_wp2
  gi_loopw [4,5] (fun i t5 wr=>∃ k:Nat,k≤m∧i=.int .i64 ((64*k:Nat):Int)∧J (UPTO (NTH m hm) k) wr∧KEEPC n₀ Bs Bn W wr)
    (fun i _ _=>(64*(m:Int) - intOf i).toNat)
  case atStart=>exact ⟨0,Nat.zero_le _,by simp,h0,Below.refl _ _,rfl,rfl⟩
  case round=>
    obtain ⟨k,hk,rfl,hJs,hnx⟩:=hrel
    have hcs:wr.cell? ⟨Bs,0,none⟩=some (.slice (some ⟨b,0,none⟩) (64*m) cap):=hnx.2.1.trans hBs
    have hcn:wr.cell? ⟨Bn,0,none⟩=some (.int .i64 64):=hnx.2.2.trans hBn
    by_cases hlt:k<m
    · obtain ⟨M,hM⟩:∃ M:Nat,64*m=M:=⟨_,rfl⟩
      obtain ⟨K,hK⟩:∃ K:Nat,64*k=K:=⟨_,rfl⟩
      have hKM:K+64≤M:=by omega
      have H:Aside (64*m=M∧64*k=K∧K+64≤M∧M≤cap∧M<2 ^ 40∧k<m):=⟨hM,hK,hKM,by omega,by omega,hlt⟩
      rw [hM] at hcs
      rw [hK]
      have c1:(K:Int)<(M:Int):=by omega
      have c2:(0:Int)≤(K:Int):=by omega
      have c3:(K:Int)≤(M:Int):=by omega
      have hsl:∀ w,(Instr.slice 30 (.slice (some ⟨b,0,none⟩) M cap) (some (.int .i64 (K:Int))) none none).run Tryd.prog w=.ok (.slice (some ⟨b,K,none⟩) (M - K) (cap - K)) w:=fun w=>zcz b M cap K (by omega) (by omega) w
      have hmin:¬ ((M - K:Nat):Int)<64:=by omega
      obtain ⟨Z,hZ⟩:∃ Z:Nat,K+64=Z:=⟨_,rfl⟩
      have hsp:=zau b M cap K Z hZ (by omega)
      have HZ:Aside (k+1≤m∧(Z:Int)=((64*(k+1):Nat):Int)∧(64*(m:Int) - (Z:Int)).toNat<(64*(m:Int) - (K:Int)).toNat):=⟨hlt,by omega,ze6 m K Z hZ (by omega)⟩
      have e1:=zcA K Z hZ (by omega)
      clear hZ
      have hbk:(NTH m hm k).val=k:=Nat.mod_eq_of_lt hlt
      obtain ⟨fn,tmps,assign,body,hy,hR⟩:=hY _ (NTH m hm k) wr.drew (hd _ _ hJs) (by rw [z1w];exact hlt)
      rw [hbk,z0p,hK] at hy
      clear hKM hM hK hlt hk hreach hcap hBs hBn hbk
      gi_upto_region 3 with fail
      gi_cut [5] from 13 (fun s5 W=>s5=.int .i64 64∧wr.drew=W)
      case first=>
        rename_i JJ KK hJJ hKK
        gi_region
        all_goals refine hKK _ _ (Met.intro (hJJ _ _ ?_))
        all_goals (repeat apply Exists.intro)
        all_goals exact ⟨⟨rfl,rfl⟩,rfl⟩
      case rest=>
        obtain ⟨rfl,rfl⟩:=hcut
        clear hsl hmin
        gi_wp2
        refine hR.mono ?_
        rintro e W3 (⟨rfl,hJ3,hk3⟩ | ⟨rfl,hJx3⟩)
        · have hcs3:W3.cell? ⟨Bs,0,none⟩=some (.slice (some ⟨b,0,none⟩) M cap):=hk3.2.1.trans hcs
          have hcn3:W3.cell? ⟨Bn,0,none⟩=some (.int .i64 64):=hk3.2.2.trans hcn
          gi_wp2
          go_roundw
          case rel=>exact ⟨k+1,HZ.out.1,by rw [e1,HZ.out.2.1],by rw [z14];exact hJ3,hnx.t ⟨((Below.refl _ _).drew).trans hk3.1,hk3.2⟩⟩
          case measure=>rw [e1];exact HZ.out.2.2
        · gi_wp2
          refine bodyPost_ret (results_none rfl _ _ _) rfl ?_
          exact ⟨⟨_,rfl⟩,.inr ⟨_,⟨k+1,HZ.out.1,by rw [z14]⟩,hJx3⟩⟩
    · obtain rfl:k=m:=by omega
      have c1:¬ ((64*k:Nat):Int)<((64*k:Nat):Int):=Int.lt_irrefl _
      clear hlt hk hreach hcap
      gi_wp2
      go_end0
      exact ⟨⟨_,rfl⟩,.inl hJs⟩
set_option maxHeartbeats 1000000 in
theorem zfw (F:Fence) (n:Nat) (hF:F.fn 70) (hro:F.round=none) (a:Option Addr) (len cap:Nat) (w:World):
    CallsIn F n Tryd.prog 70 #[.slice a len cap,.int .i64 64] w fun e w'=>e=.returned (.func (.func 92) #[] #[.pointer (some ⟨w.heap.size,0,none⟩),.pointer (some ⟨w.heap.size+1,0,none⟩)])∧w'=(w.alloc (.cells #[.slice a len cap] 30)).alloc (.cells #[.int .i64 64] 3):=by
  refine callsIn_of_wp Tryd.func70 rfl hF ?_ hro
  simp only [Tryd.ntmps70,List.size_toArray,List.length_cons,List.length_nil,Nat.reduceAdd,Nat.reduceSub,Array.replicate_succ,Array.replicate_zero,List.push_toArray,List.append_toArray,List.nil_append,List.cons_append]
  gi_wp2
  go_ret
  exact ⟨rfl,rfl⟩
theorem zav (F:Fence) (n:Nat) (hF:F.fn 92) (hro:F.round=none) (hn:1≤n) (Bs Bn n₀ b m cap:Nat) (hm:0<m) (hcap:64*m≤cap) (hreach:m<2 ^ 30) (w:World) (hBs:Bs<w.heap.size) (hBn:Bn<w.heap.size)
    (hc:w.cell? ⟨Bs,0,none⟩=some (.slice (some ⟨b,0,none⟩) (64*m) cap)) (hI:w.cell? ⟨Bn,0,none⟩=some (.int .i64 64)):
    SeqStopsK F n Tryd.prog 92 #[.pointer (some ⟨Bs,0,none⟩),.pointer (some ⟨Bn,0,none⟩)] (fun x:Fin m=>#[z0p b x.val]) (KEEPC n₀ Bs Bn) (fun ys=>ys=UPTO (NTH m hm) m)
      (fun pre=>∃ k,k≤m∧pre=UPTO (NTH m hm) k) m w:=fun l J Jx W hW hJ _ hY h0=>
  ze7 F n hF hro hn l Bs Bn n₀ b m cap hm hcap hreach J Jx hY W ((hW.cell (p:=⟨Bs,0,none⟩) hBs).trans hc) ((hW.cell (p:=⟨Bn,0,none⟩) hBn).trans hI) h0 (fun s A h=>hJ s A A.drew none h ⟨rfl,rfl,rfl,Nat.le_refl _,fun _ _ _=>rfl⟩ (fun r e=>by cases e))
end Go.Proofs.YtbmjoiiagldklaaDoor.HX

namespace Go.Proofs.YtbmjoiiagldklaaDoor.HX
open Go.RowKit
set_option maxRecDepth 100000
def ROWN (n:Nat) (f:Nat→Nat):List Nat:=(List.range n).map f
theorem z3n (n:Nat) (f:Nat→Nat):(ROWN n f).length=n:=by simp [ROWN]
theorem ze8 (n:Nat) (f:Nat→Nat) (i:Nat) (h:i<n):(ROWN n f).getD i 0=f i:=by
  rw [List.getD_eq_getElem?_getD,ROWN,List.getElem?_map,List.getElem?_range h]
  rfl
theorem zie (n:Nat) (f:Nat→Nat):BY (ROWN n f)=z09 .u8 n f:=by
  simp [BY,z00,INTS,ROWN,z09]
def NB (l:List Nat):Nat:=(HFUL l).length / 64
theorem z28 (l:List Nat):(HFUL l).length=64*NB l:=by
  unfold NB
  rw [z3l]
  omega
theorem z2C (l:List Nat):0<NB l:=by
  have h1:=z28 l
  have h2:9≤(HFUL l).length:=by
    rw [HFUL,List.length_append,z1K]
    omega
  omega
theorem zcB (l:List Nat) (h:l.length<2 ^ 30):NB l<2 ^ 30:=by
  have h1:=z28 l
  have h2:(HFUL l).length=l.length+(z0y l.length+9):=by rw [HFUL,List.length_append,z1K]
  have h3:z0y l.length<64:=Nat.mod_lt _ (by decide)
  omega
def INL (d:Int) (L:List Nat):Nat→List Nat
  | 0=>[]
  | t+1=>INL d L t ++ ROWN 96 (INP (z0o d L t) (BLK L t))
theorem z2h (d:Int) (L:List Nat):∀ m,(INL d L m).length=96*m
  | 0=>rfl
  | m+1=>by rw [INL,List.length_append,z2h d L m,z3n];omega
theorem zbj (d:Int) (L:List Nat) (t i:Nat) (hi:i<96):∀ m,t<m→(INL d L m).getD (96*t+i) 0=INP (z0o d L t) (BLK L t) i
  | 0,h=>by omega
  | m + 1,h=>by
    rw [INL]
    by_cases e:t=m
    · subst e
      rw [List.getD_eq_getElem?_getD,List.getElem?_append_right (by rw [z2h];omega),z2h,show 96*t+i - 96*t=i by omega,← List.getD_eq_getElem?_getD,ze8 _ _ _ hi]
    · rw [List.getD_eq_getElem?_getD,List.getElem?_append_left (by rw [z2h];omega),← List.getD_eq_getElem?_getD]
      exact zbj d L t i hi m (by omega)
def ACC (d:Int) (L:List Nat) {m:Nat} (pre:List (Fin m)):(Nat→Nat) × List Nat:=pre.foldl (fun s j=>(COMP d s.1 (BLK L j.val),s.2 ++ ROWN 96 (INP s.1 (BLK L j.val)))) (z05 d,[])
theorem z58 (d:Int) (L:List Nat) {m:Nat} (pre:List (Fin m)) (x:Fin m):ACC d L (pre ++ [x])=(COMP d (ACC d L pre).1 (BLK L x.val),(ACC d L pre).2 ++ ROWN 96 (INP (ACC d L pre).1 (BLK L x.val))):=by
  simp [ACC,List.foldl_append]
theorem zj9 (d:Int) (L:List Nat) {m:Nat} (pre:List (Fin m)) (i:Nat):(ACC d L pre).1 i<256:=by
  rcases List.eq_nil_or_concat pre with rfl | ⟨q,x,rfl⟩
  · exact z35 (z4Q _) i
  · rw [List.concat_eq_append,z58]
    exact z35 (z4Q _) i
theorem zcC (d:Int) (L:List Nat) {m:Nat}:∀ (pre:List (Fin m)),(ACC d L pre).2.length=96*pre.length:=by
  intro pre
  induction h:pre.length generalizing pre with
  | zero=>obtain rfl:pre=[]:=List.eq_nil_of_length_eq_zero h;rfl
  | succ n ih=>
    rcases List.eq_nil_or_concat pre with rfl | ⟨q,x,rfl⟩
    · simp at h
    · rw [List.concat_eq_append] at h ⊢
      have hq:q.length=n:=by simpa using h
      rw [z58,List.length_append,ih q hq,z3n]
      omega
theorem zbk (d:Int) (L:List Nat) (m:Nat) (hm:0<m):∀ k,k≤m→ACC d L (UPTO (NTH m hm) k)=(z0o d L k,INL d L k)
  | 0,_=>rfl
  | k+1,h=>by
    have e:(NTH m hm k).val=k:=Nat.mod_eq_of_lt (by omega)
    rw [z14,z58,zbk d L m hm k (by omega),e]
    rfl
end Go.Proofs.YtbmjoiiagldklaaDoor.HX
