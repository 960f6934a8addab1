/- Texts of ClashMembers, one behind the other: VerifyRefBag, ProofRefDecoded, VerifyRefMember. -/
import Derived.Test.YtbmjoiiagldklaaGreatDoorClashMembersP6
import Derived.Test.YtbmjoiiagldklaaGreatDoorClashMembersP13
import Derived.Test.YtbmjoiiagldklaaGreatDoorClashMembersP29
import Derived.Test.YtbmjoiiagldklaaGreatDoorClashMembersP32
import Derived.Test.YtbmjoiiagldklaaGreatDoorClashMembersP33
import Derived.Test.YtbmjoiiagldklaaGreatDoorClashMembersP34
namespace Go.Proofs.YtbmjoiiagldklaaGreatDoor
open Go.RowKit
set_option maxRecDepth 100000
theorem zbE (d:Int) (l r:List Int) (hl:IsH l) (hr:IsH r) (w:World):Calls Tryz.prog 54 #[.int .i64 d,.agg (z01 l).toArray,.agg (z01 r).toArray] w fun e w'=>e=.returned (.agg (z01 (z1l d l r)).toArray)∧Below w.heap.size w w':=by
  rw [z0B hl,z0B hr]
  refine (HX.zdF d (FNC l) (FNC r) (z1h hl) (z1h hr) w).mono ?_
  rintro e w' ⟨rfl,hb⟩
  exact ⟨by rw [z1x];rfl,hb⟩
theorem zbF (d:Int) (n:Nat) (hn:n<2 ^ 64) (r:List Int) (hr:IsH r) (w:World):Calls Tryz.prog 53 #[.int .i64 d,.int .u64 (n:Int),.agg (z01 r).toArray] w fun e w'=>e=.returned (.agg (z01 (z0X d n r)).toArray)∧Below w.heap.size w w':=by
  rw [z0B hr]
  refine (HX.zdG d n hn (FNC r) (z1h hr) w).mono ?_
  rintro e w' ⟨rfl,hb⟩
  exact ⟨by rw [z1x];rfl,hb⟩
set_option maxHeartbeats 4000000 in
theorem zdJ (d:Int) (n:Nat) (hn:n≤4611686018427387904) (a:Option Addr) (k c:Nat) (hk:k=PC n) (h0:k≠0) (l:List Int) (w:World) (hF:Flat w a k l):
    Calls Tryz.prog 24 #[.int .i64 d,.int .u64 (n:Int),.slice a k c] w fun e w'=>e=.returned (.tuple #[.agg (z01 (z0X d n (FLD d l k))).toArray,.int .i64 0])∧Below w.heap.size w w':=by
  obtain ⟨w0,hw0⟩:∃ w0,w.alloc (.cells ZARR 23)=w0:=⟨_,rfl⟩
  have hb0:Below w.heap.size w w0:=by rw [← hw0];exact (Below.refl _ _).alloc (Nat.le_refl _) _
  have h40:Has w0 w.heap.size (z01 ZND).toArray 23:=by rw [← hw0,← z2B];exact Has.new w _ _
  have h1':¬ (4611686018427387904:Int)<(n:Int):=by omega
  have hk64:k≤64:=by rw [hk];exact z0V 64 n (by omega)
  have co:=zc6 n hn w0
  generalize z13 (TOPS 0 n)=SC at co
  rw [← hk] at co
  obtain ⟨m,hm⟩:∃ m,k=m+1:=⟨k - 1,by omega⟩
  obtain ⟨gn,o,rfl,hgn, -⟩:=hF.2.1 (by omega)
  have hz0:((k:Int) == 0)=false:=beq_eq_false_iff_ne.2 (by omega)
  have e1:wrap64 ((k:Int) - 1)=(m:Int):=by unfold wrap64;omega
  have e2:wrap64 ((k:Int) - 2)=(m:Int) - 1:=by unfold wrap64;omega
  have hml:(m:Int)<(k:Int):=by omega
  have e:FLD d l k=FA d l k m:=by unfold FLD;rw [if_neg h0,show k - 1=m by omega]
  have hFA:=z6d (d:=d) hF.1 hF.2.2 (by omega)
  have CR:Aside (∀ W,Calls Tryz.prog 53 #[.int .i64 d,.int .u64 (n:Int),.agg (z01 (FA d l k m)).toArray] W fun e w'=>e=.returned (.agg (z01 (z0X d n (FLD d l k))).toArray)∧Below W.heap.size W w'):=fun W=>by
    rw [e]
    exact zbF d n (by omega) (FA d l k m) (hFA m) W
  have hYH:IsH (z0X d n (FLD d l k)):=z5k _ _ _
  generalize z0X d n (FLD d l k)=Y at *
  have HA:Aside (k=m+1∧k≤64∧Flat w (some ⟨gn,o,none⟩) k l∧gn<w.heap.size∧(∀ i,IsH (FA d l k i))∧FA d l k 0=HSH l m∧Y.length=32):=⟨hm,hk64,hF,hgn,hFA,by rw [FA,show k - 1=m by omega],hYH.1⟩
  have R0:Aside (Below w.heap.size w w0∧Has w0 w.heap.size (z01 ZND).toArray 23):=⟨hb0,h40⟩
  clear hm hn hgn h0 e hF hk hk64 hb0 h40 hFA hYH
  go_enter Tryz.func24,Tryz.ntmps24
  go_upto_region 1 with fail
  go_wp2_with fail
  refine co.mono ?_
  rintro e w1 ⟨v,rfl,hown,hb1⟩
  obtain ⟨a',c',rfl,_⟩:∃ a' c',v=.slice a' k c'∧True:=by
    rcases hown.2 with ⟨e,h⟩ | ⟨g,cap,cur,e,_⟩
    · exact ⟨none,0,by rw [e,h],trivial⟩
    · exact ⟨_,_,e,trivial⟩
  clear co hown
  have R1:Aside (Below w.heap.size w w1∧Has w1 w.heap.size (z01 ZND).toArray 23):=⟨R0.out.1.trans (hb1.mono R0.out.1.size),R0.out.2.keep hb1⟩
  clear hb1 hw0
  have hat:w1.rangeAt gn (o+m*32) (z01 (FA d l k 0)):=by rw [HA.out.2.2.2.2.2.1];exact (HA.out.2.2.1.below R1.out.1).at (show m<k by have:=HA.out.1;omega)
  have h32:=(HA.out.2.2.2.2.1 0).1
  generalize hA0:FA d l k 0=A0 at *
  go_wp2_with (first
    | (refine wpList_load_mid rfl 23 (.tmp 30) rfl gn (o+m*32) rfl (z01 A0) _ hat Tryz.underlying23 rfl (z0e h32) ?_)
    | (refine wpList_store_row rfl 23 (.tmp 8) (.tmp 31) rfl _ _ rfl rfl 23 _ (Has.new w1 _ _) (z05 h32) (by simp [z01,h32]) (z0u A0) ?_;rw [World.setRow_alloc_new]))
  have R2:Aside (Below w.heap.size w (w1.alloc (.cells (z01 A0).toArray 23))∧Has (w1.alloc (.cells (z01 A0).toArray 23)) w.heap.size (z01 ZND).toArray 23∧Has (w1.alloc (.cells (z01 A0).toArray 23)) w1.heap.size (z01 (FA d l k 0)).toArray 23∧w.heap.size<w1.heap.size):=⟨R1.out.1.alloc R1.out.1.size _,R1.out.2.alloc _,by rw [hA0];exact Has.new _ _ _,R1.out.2.lt⟩
  clear hat h32 hA0 R0 R1
  generalize w1.alloc (.cells (z01 A0).toArray 23)=W1 at *
  generalize w1.heap.size=b8 at *
  have K:Aside (w.heap.size<b8):=R2.out.2.2.2
  go_loopg [9] m (fun q s9 wx=>∃ x:Int,s9=.int .i64 x∧Aside (q≤m∧x=(q:Int) - 1∧Below w.heap.size w wx∧Has wx w.heap.size (z01 ZND).toArray 23∧Has wx b8 (z01 (FA d l k (m - q))).toArray 23))
  case atStart=>exact ⟨_,rfl,Nat.le_refl _,by first | rfl | exact e2,R2.out.1,R2.out.2.1,by rw [Nat.sub_self];exact R2.out.2.2.1⟩
  case round=>
    obtain ⟨x,rfl,A⟩:=hrel
    clear R2 e1 e2
    cases gk with
    | zero=>
      obtain rfl:x = -1:=by have:=A.out.2.1;omega
      have hH8:Has wr b8 (z01 (FA d l k m)).toArray 23:=A.out.2.2.2.2
      have A2:Aside (Below w.heap.size w wr∧Has wr w.heap.size (z01 ZND).toArray 23):=⟨A.out.2.2.1,A.out.2.2.2.1⟩
      have x32:=(HA.out.2.2.2.2.1 m).1
      have y32:=HA.out.2.2.2.2.2.2
      have cr:=CR.out wr
      clear A HA CR
      generalize FA d l k m=X at *
      go_wp2_with (refine wpList_load_row rfl 23 (.tmp 8) rfl b8 rfl 23 (z01 X).toArray (0,0) _ hH8 Tryz.underlying23 rfl (z05 x32) ?_)
      refine cr.mono ?_
      rintro e w2 ⟨rfl,hb2⟩
      clear cr
      have h42:=A2.out.2.keep hb2
      have hb3:Below w.heap.size w w2:=A2.out.1.trans (hb2.mono A2.out.1.size)
      clear hb2 A2
      go_wp2_with (refine wpList_store_row rfl 23 (.tmp 6) (.tmp 49) rfl _ _ rfl rfl 23 _ h42 (z05 y32) (by simp [z01,y32];rfl) (z0u Y) ?_)
      refine bodyPost_ret (v:=.tuple #[.agg (z01 Y).toArray,.int .i64 0]) (z2J rfl _ _ w.heap.size 23 _ (0,0) _ _ _ rfl rfl (Has.row h42 _) Tryz.underlying23 (z05 y32)) rfl ⟨rfl,z0k hb3 (Nat.le_refl _) _⟩
    | succ q=>
      obtain rfl:x=(q:Int):=by have:=A.out.2.1;omega
      have hq0:(0:Int)≤(q:Int):=by omega
      obtain ⟨h1,h2,h3,h5,h6,_,_⟩:=HA.out
      have hqm:q+1≤m:=A.out.1
      have hb1:(q:Int)<(k:Int):=by omega
      have eY:FA d l k (m - q)=z1l d (HSH l q) (FA d l k (m - (q+1))):=by
        rw [show m - q=(m - (q+1))+1 by omega,FA,show k - 2 - (m - (q+1))=q by omega]
      have hE1:Aside (wrap64 ((q:Int) - 1)=(q:Int) - 1):=by show wrap64 ((q:Int) - 1)=(q:Int) - 1;unfold wrap64;omega
      have H2:Aside (w.rangeAt gn (o+q*32) (z01 (HSH l q))∧gn<w.heap.size∧IsH (HSH l q)∧(∀ i,IsH (FA d l k i))∧FA d l k (m - q)=z1l d (HSH l q) (FA d l k (m - (q+1)))∧Below w.heap.size w wr∧Has wr w.heap.size (z01 ZND).toArray 23∧Has wr b8 (z01 (FA d l k (m - (q+1)))).toArray 23∧q≤m):=⟨h3.at (by omega),h5,z1F h3.1 h3.2.2 (by omega),h6,eY,A.out.2.2.1,A.out.2.2.2.1,A.out.2.2.2.2,by omega⟩
      clear h1 h2 h3 h5 h6 eY A HA hqm CR
      go_upto_region 11 with fail
      refine zaE wr gn o k c b8 q d (HSH l q) (FA d l k (m - (q+1))) (FA d l k (m - q)) H2.out.2.2.1.1 (H2.out.2.2.2.1 _).1 (H2.out.2.2.2.1 _).1 hb1 (fun V=>Below wr.heap.size wr V) (Below.refl _ _).drew (fun V hV=>?_) (fun V hV=>?_) (fun V hV=>?_) (fun _ _ _ _ _ h=>h) ?_
      · exact ⟨z25 H2.out.1 (H2.out.2.2.2.2.2.1.trans (hV.mono H2.out.2.2.2.2.2.1.size)) H2.out.2.1,H2.out.2.2.2.2.2.2.2.1.keep hV⟩
      · exact z25 H2.out.1 (z0k (H2.out.2.2.2.2.2.1.trans (hV.mono H2.out.2.2.2.2.2.1.size)) (Nat.le_of_lt K.out) _) H2.out.2.1
      · refine (zbE d (HSH l q) (FA d l k (m - (q+1))) H2.out.2.2.1 (H2.out.2.2.2.1 _) V).mono ?_
        rintro e V' ⟨rfl,hb⟩
        exact ⟨by rw [H2.out.2.2.2.2.1],hV.trans (hb.mono hV.size)⟩
      · rintro W3 ⟨w0',hw0',hW3⟩
        have Z:Aside (q≤m∧Below w.heap.size w W3∧Has W3 w.heap.size (z01 ZND).toArray 23∧Has W3 b8 (z01 (FA d l k (m - q))).toArray 23):=by
          have hV2:Below w.heap.size w w0':=H2.out.2.2.2.2.2.1.trans (hw0'.mono H2.out.2.2.2.2.2.1.size)
          rw [hW3]
          exact ⟨H2.out.2.2.2.2.2.2.2.2,z0k hV2 (Nat.le_of_lt K.out) _,(H2.out.2.2.2.2.2.2.1.keep hw0').row_other (by have:=K.out;omega) _,(H2.out.2.2.2.2.2.2.2.1.keep hw0').row _⟩
        clear hW3 hw0' H2
        have e1:=hE1.out
        go_wp2_with fail
        go_roundg q
        case measure=>exact Nat.lt_succ_self _
        case rel=>exact ⟨_,rfl,Z.out.1,by first | rfl | exact hE1.out,Z.out.2⟩
end Go.Proofs.YtbmjoiiagldklaaGreatDoor

namespace Go.Proofs.YtbmjoiiagldklaaGreatDoor
open Go.RowKit
set_option maxRecDepth 100000
theorem z3l (b off n c k:Nat) (hk:k≤n) (hc:n≤c) (w:World):(Instr.slice 25 (.slice (some ⟨b,off,none⟩) n c) (some (.int .i64 (k:Int))) none none).run Tryz.prog w=.ok (.slice (REST b off c k) (n - k) (c - k)) w:=by
  obtain ⟨i8,hi,h8⟩:=Option.map_eq_some_iff.1 z0S
  have he:Tryz.prog.elem 25=5:=by kernel_rfl
  have hu:Tryz.prog.underlying 25=some (.slice (Tryz.prog.elem 25)):=by kernel_rfl
  by_cases e:c=k
  · obtain rfl:n=c:=by omega
    subst e
    simp [REST,go_sem]
  · have e1:¬ (n:Int)<(k:Int):=by omega
    have hcell:Tryz.prog.cellsOf 5=1:=by kernel_rfl
    rw [run_slice_l (P:=Tryz.prog) w 25 (some ⟨b,off,none⟩) n c hu .i64 (k:Int) (by omega) (by omega),he]
    have h9:i8.size=1:=by
      have:(Tryz.prog.info? 5).map (·.size)=some 1:=by kernel_rfl
      rw [hi] at this
      simpa using this
    simp [sizeOf,typeInfo,hi,h9,sliced,Addr.add,REST,e]
theorem Flat.off {w:World} {a:Option Addr} {n:Nat} {l:List Int} (h:Flat w a n l) {x:Addr} (hx:∀ b o,a=some ⟨b,o,none⟩→b≠x.block) (u:Value):Flat (w.setCell x u) a n l:=
  ⟨h.1,fun hn=>by
    obtain ⟨b,o,e,hl,hc⟩:=h.2.1 hn
    exact ⟨b,o,e,Nat.lt_of_lt_of_le hl (KeepsWalks.setCell w x u).size,fun j hj=>(World.cell?_setCell_other w _ _ u (fun e'=>hx b o e (congrArg Addr.block e').symm)).trans (hc j hj)⟩,h.2.2⟩
theorem zgP {w:World} {B n:Nat} {a:Option Addr} {c:Nat} {xs:List Value} (h:w.ownsRow B 23 32 (.slice a n c) n xs):n≤c∧(a=none→c=0):=by
  rcases h.2 with ⟨e,h0⟩ | ⟨g,cap,cur,e,_,_,h1,_⟩
  · cases e
    exact ⟨by omega,fun _=>rfl⟩
  · cases e
    exact ⟨h1,fun h=>by cases h⟩
def DECF (w:World) (D:DANS) (e:Ending) (w':World):Prop:=
  ∃ a c,e=.returned (.tuple #[.agg #[.int .u64 (D.2.1:Int),.int .u64 (D.2.2.1:Int),.slice a D.2.2.2.1 c],.int .i64 D.1])∧Flat w' a D.2.2.2.1 D.2.2.2.2∧Below w.heap.size w w'∧(∀ b o,a=some ⟨b,o,none⟩→w.heap.size≤b)∧D.2.2.2.1≤c∧(a=none→c=0)
theorem z1d {fn:Func} {p q:Tmp} {ty:TypeId} (h:fn.results=#[.cell p ty,.tmp q]) (tmps:Array Value) (w:World) (g:Nat) (t:TypeId) (cs:Array Value) (fr:Nat × Nat) (fs:Array Field)
    (hp:tmps.getD p undef=.pointer (some ⟨g,0,none⟩)) (hg:w.heap[g]?=some (.cells cs t fr)) (v:Value) (hq:tmps.getD q undef=v)
    (hu:Tryz.prog.underlying ty=some (.struct fs)) (hi:(Tryz.prog.info? ty).map (·.size)=some cs.size):
    (results fn tmps).run Tryz.prog w=.ok (.tuple #[.agg cs,v]) w:=by
  have hp':tmps[p]?.getD undef=.pointer (some ⟨g,0,none⟩):=by simpa using hp
  have hq':tmps[q]?.getD undef=v:=by simpa using hq
  simp [results,h,hp',hq',asAddr,run_loadVar_row w g t ty cs fr (.struct fs) hg hu rfl hi]
set_option maxHeartbeats 4000000 in
theorem zaF (a:Option Addr) (n c:Nat) (hn:n≤1000000) (l:List Int) (w:World) (hB:Bytes w a n l) (hc:n≤c):Calls Tryz.prog 22 #[.slice a n c] w (DECF w (DEC l)):=by
  have hln:l.length=n:=hB.1
  obtain ⟨D,hD⟩:∃ D,DEC l=D:=⟨_,rfl⟩
  rw [hD]
  have hDD:DC0 77 z1k (fun S I=>PLA I S) l=D:=hD
  have R:Aside (Below w.heap.size w (w.alloc (.cells #[.int .u64 0,.int .u64 0,.slice none 0 0] 49))∧Has (w.alloc (.cells #[.int .u64 0,.int .u64 0,.slice none 0 0] 49)) w.heap.size #[.int .u64 0,.int .u64 0,.slice none 0 0] 49):=⟨(Below.refl _ _).alloc (Nat.le_refl _) _,Has.new _ _ _⟩
  have ERR:Aside (∀ (E:Int) (W:World),Below w.heap.size w W→D=DERR E→DECF w D (.returned (.tuple #[.agg #[.int .u64 0,.int .u64 0,.slice none 0 0],.int .i64 E])) W):=fun E W h1 h3=>by
    rw [h3]
    exact ⟨none,0,rfl,⟨rfl,fun h=>absurd h (by simp [DERR]),by simp [DERR]⟩,h1,(fun _ _ h=>by cases h),Nat.zero_le _,fun _=>rfl⟩
  unfold DC0 at hDD
  rw [hln] at hDD
  clear hD
  by_cases h0:n=0
  · subst h0
    rw [if_pos rfl] at hDD
    have X:Aside (D=DERR 11):=hDD.symm
    clear hB hc hn hDD hln
    go_enter Tryz.func22,Tryz.ntmps22
    go_wp2
    refine bodyPost_ret (v:=.tuple #[.agg #[.int .u64 0,.int .u64 0,.slice none 0 0],.int .i64 11]) (z1d rfl _ _ w.heap.size 49 _ (0,0) _ rfl R.out.2 _ rfl Tryz.underlying49 (by kernel_rfl)) rfl (ERR.out 11 _ R.out.1 X.out)
  rw [if_neg h0] at hDD
  obtain ⟨b,o,rfl,hbl,hcs⟩:=hB.2.1 (by omega)
  have hz:¬ (n:Int)=0:=by omega
  have hpos:(0:Int)<(n:Int):=by omega
  have hx:(w.alloc (.cells #[.int .u64 0,.int .u64 0,.slice none 0 0] 49)).cell? ⟨b,o,none⟩=some (.int .u8 (l.getD 0 0)):=by
    have:=hcs 0 (by omega)
    rw [Nat.add_zero] at this
    exact (R.out.1.cell (p:=⟨b,o,none⟩) hbl).trans this
  clear hbl hcs
  by_cases hK:l.getD 0 0=77
  · rw [if_neg (by simpa using hK)] at hDD
    rw [hK] at hx
    have hs1:(Instr.slice 25 (.slice (some ⟨b,o,none⟩) n c) (some (.int .i64 1)) none none).run Tryz.prog (w.alloc (.cells #[.int .u64 0,.int .u64 0,.slice none 0 0] 49))=.ok (.slice (REST b o c 1) (n - 1) (c - 1)) (w.alloc (.cells #[.int .u64 0,.int .u64 0,.slice none 0 0] 49)):=by
      have:=z3l b o n c 1 (by omega) hc (w.alloc (.cells #[.int .u64 0,.int .u64 0,.slice none 0 0] 49))
      simpa using this
    have HA:Aside (Bytes w (some ⟨b,o,none⟩) n l∧n≤c∧n≤1000000∧1≤n∧l.length=n):=⟨hB,hc,hn,by omega,hln⟩
    clear hB hc hn h0 hK hln
    go_enter Tryz.func22,Tryz.ntmps22
    go_wp2_with fail
    have c1:=z7Q (REST b o c 1) (n - 1) (c - 1) (l.drop 1) (w.alloc (.cells #[.int .u64 0,.int .u64 0,.slice none 0 0] 49)) ((HA.out.1.behind 1 HA.out.2.2.2.1 HA.out.2.1).below R.out.1) (by have:=HA.out;omega)
    have hlen1:(l.drop 1).length=n - 1:=by rw [List.length_drop,HA.out.2.2.2.2]
    rw [← hlen1,show LG (l.drop 1) (l.drop 1).length 10 0 0=LNG (l.drop 1) from rfl,hlen1] at c1
    refine c1.mono ?_
    rintro e w1 ⟨rfl,rfl⟩
    clear c1 hlen1 hs1 hx hz hpos
    unfold DC1 at hDD
    generalize (w.alloc (.cells #[.int .u64 0,.int .u64 0,.slice none 0 0] 49))=W0 at *
    by_cases hE1:(LNG (l.drop 1)).2.2=0
    · rw [if_neg (by simpa using hE1)] at hDD
      obtain ⟨Z,m,hZ,hm1,hm2,hL, -⟩:=z1Z (fun x hx=>HA.out.1.2.2 x (List.mem_of_mem_drop hx)) hE1
      rw [hL] at hDD ⊢
      dsimp only at hDD ⊢
      rw [Int.toNat_natCast,Int.toNat_natCast] at hDD
      have hm3:1+m≤n:=by have h1:=HA.out.2.2.2.1;have h2:=HA.out.2.2.2.2;rw [List.length_drop,h2] at hm2;omega
      have HM:Aside (Z<2 ^ 64∧1+m≤n):=⟨hZ,hm3⟩
      clear hL hE1 hm1 hm2 hZ hm3
      by_cases hbig:z1k Z=true
      · rw [if_pos hbig] at hDD
        have X:Aside (D=DERR 30):=hDD.symm
        have hgt:(4611686018427387904:Int)<(Z:Int):=by unfold z1k at hbig;simp at hbig;omega
        clear hDD hbig
        have x0:W0.cell? ⟨w.heap.size,0,none⟩=some (.int .u64 0):=R.out.2.cell 0
        have x1:W0.cell? ⟨w.heap.size,1,none⟩=some (.int .u64 0):=R.out.2.cell 1
        have x2:W0.cell? ⟨w.heap.size,2,none⟩=some (.slice none 0 0):=R.out.2.cell 2
        have f0:=R.out.2.frozen 0
        have f1:=R.out.2.frozen 1
        have f2:=R.out.2.frozen 2
        go_wp2
        obtain ⟨r1,r2⟩:=R.out
        have hH:=((r2.set 0 (.int .u64 0)).set 1 (.int .u64 0)).set 2 (.slice none 0 0)
        have hb:=((r1.setCell (p:=⟨w.heap.size,0,none⟩) (Nat.le_refl _) (.int .u64 0)).setCell (p:=⟨w.heap.size,1,none⟩) (Nat.le_refl _) (.int .u64 0)).setCell (p:=⟨w.heap.size,2,none⟩) (Nat.le_refl _) (.slice none 0 0)
        refine bodyPost_ret (v:=.tuple #[.agg #[.int .u64 0,.int .u64 0,.slice none 0 0],.int .i64 30]) (z1d rfl _ _ w.heap.size 49 _ (0,0) _ rfl hH _ rfl Tryz.underlying49 (by kernel_rfl)) rfl (ERR.out 30 _ hb X.out)
      rw [if_neg hbig] at hDD
      have hgt:¬ (4611686018427387904:Int)<(Z:Int):=by unfold z1k at hbig;simp at hbig;omega
      clear hbig
      rw [List.drop_drop] at hDD
      have wm:wrap64 (1+(m:Int))=((1+m:Nat):Int):=by have:=HM.out;have:=HA.out;unfold wrap64;omega
      have hs2:(Instr.slice 25 (.slice (some ⟨b,o,none⟩) n c) (some (.int .i64 ((1+m:Nat):Int))) none none).run Tryz.prog W0=.ok (.slice (REST b o c (1+m)) (n - (1+m)) (c - (1+m))) W0:=z3l b o n c (1+m) HM.out.2 HA.out.2.1 W0
      obtain ⟨m',hm'⟩:∃ m',1+m=m':=⟨_,rfl⟩
      rw [hm'] at wm hs2 hDD HM
      clear hm'
      go_wp2_with fail
      have c2:=z7Q (REST b o c m') (n - m') (c - m') (l.drop m') W0 ((HA.out.1.behind m' HM.out.2 HA.out.2.1).below R.out.1) (by have:=HA.out;omega)
      have hlen2:(l.drop m').length=n - m':=by rw [List.length_drop,HA.out.2.2.2.2]
      rw [← hlen2,show LG (l.drop m') (l.drop m').length 10 0 0=LNG (l.drop m') from rfl,hlen2] at c2
      refine c2.mono ?_
      rintro e w1 ⟨rfl,rfl⟩
      clear c2 hlen2 hs2
      unfold DC2 at hDD
      by_cases hE2:(LNG (l.drop m')).2.2=0
      · rw [if_neg (by simpa using hE2)] at hDD
        obtain ⟨Y,k,hY,hk1,hk2,hL, -⟩:=z1Z (fun x hx=>HA.out.1.2.2 x (List.mem_of_mem_drop hx)) hE2
        rw [hL] at hDD ⊢
        dsimp only at hDD ⊢
        rw [Int.toNat_natCast,Int.toNat_natCast,List.drop_drop] at hDD
        have hk3:m'+k≤n:=by have h1:=HM.out.2;have h2:=HA.out.2.2.2.2;rw [List.length_drop,h2] at hk2;omega
        have HK:Aside (Y<2 ^ 64∧m'+k≤n):=⟨hY,hk3⟩
        clear hL hE2 hk1 hk2 hY hk3
        go_wp2_with fail
        refine (zaD Z Y none 0 0 W0).mono ?_
        rintro e w2 ⟨rfl,hb2⟩
        unfold DC3 at hDD
        have R:Aside (Below w.heap.size w w2∧Has w2 w.heap.size #[.int .u64 0,.int .u64 0,.slice none 0 0] 49):=⟨R.out.1.trans (hb2.mono R.out.1.size),R.out.2.keep hb2⟩
        clear hb2
        obtain ⟨E3,hE3⟩:∃ E3,(PLA Y Z).1=E3:=⟨_,rfl⟩
        obtain ⟨N,hN⟩:∃ N,(PLA Y Z).2.length=N:=⟨_,rfl⟩
        have hfew:N≤188:=by rw [← hN];exact z8e Y Z
        try dsimp only at hDD
        rw [hE3,hN] at hDD ⊢
        clear hE3 hN
        by_cases h3:E3=0
        · subst h3
          rw [if_neg (by simp)] at hDD
          obtain ⟨m2,hm2⟩:∃ m2,m'+k=m2:=⟨_,rfl⟩
          have wk:wrap64 ((m':Int)+(k:Int))=(m2:Int):=by have:=HK.out;have:=HA.out;unfold wrap64;omega
          rw [hm2] at hDD HK
          have hs3:(Instr.slice 25 (.slice (some ⟨b,o,none⟩) n c) (some (.int .i64 (m2:Int))) none none).run Tryz.prog w2=.ok (.slice (REST b o c m2) (n - m2) (c - m2)) w2:=z3l b o n c m2 HK.out.2 HA.out.2.1 w2
          clear hm2
          go_wp2_with fail
          refine (zhR (REST b o c m2) (n - m2) (c - m2) N (by have:=HA.out;omega) (by omega) (l.drop m2) w2 ((HA.out.1.behind m2 HK.out.2 HA.out.2.1).below R.out.1)).mono ?_
          rintro e w3 ⟨v,rfl,hrow,hb3⟩
          clear hs3
          have hTK:D=((TAKN (l.drop m2) N).1,if (TAKN (l.drop m2) N).1=0 then (Z,Y,(TAKN (l.drop m2) N).2.1,(TAKN (l.drop m2) N).2.2) else (0,0,0,[])):=by
            rw [← hDD]
            unfold TAKN DERR
            split
            · rfl
            · split
              · rfl
              · rfl
          have hrg:∀ x∈(TAKN (l.drop m2) N).2.2,0≤x∧x≤255:=by
            unfold TAKN
            split
            · simp
            · split
              · simp
              · exact fun x hx=>HA.out.1.2.2 x (List.mem_of_mem_drop hx)
          obtain ⟨E4,hE4⟩:∃ E4,(TAKN (l.drop m2) N).1=E4:=⟨_,rfl⟩
          rw [hE4] at hTK ⊢
          obtain ⟨av,cv,rfl, -, -⟩:=z5l hrow
          have hlt2:=R.out.2.lt
          have R:Aside (Below w.heap.size w w3∧Has w3 w.heap.size #[.int .u64 0,.int .u64 0,.slice none 0 0] 49):=⟨R.out.1.trans (hb3.mono R.out.1.size),R.out.2.keep hb3⟩
          have R3:Aside (Flat w3 av (TAKN (l.drop m2) N).2.1 (TAKN (l.drop m2) N).2.2∧(∀ b o,av=some ⟨b,o,none⟩→b≠w.heap.size∧w.heap.size≤b)∧(TAKN (l.drop m2) N).2.1≤cv∧(av=none→cv=0)):=⟨z3f hrow hrg,(fun b o e=>by subst e;have h1:=(hrow.lt b rfl).1;omega),zgP hrow⟩
          generalize (TAKN (l.drop m2) N).2.1=N4 at *
          generalize (TAKN (l.drop m2) N).2.2=t4 at *
          clear hrow hb3 hDD hE4 hrg wk wm hlt2
          have x0:w3.cell? ⟨w.heap.size,0,none⟩=some (.int .u64 0):=R.out.2.cell 0
          have x1:w3.cell? ⟨w.heap.size,1,none⟩=some (.int .u64 0):=R.out.2.cell 1
          have x2:w3.cell? ⟨w.heap.size,2,none⟩=some (.slice none 0 0):=R.out.2.cell 2
          have f0:=R.out.2.frozen 0
          have f1:=R.out.2.frozen 1
          have f2:=R.out.2.frozen 2
          by_cases h4:E4=0
          · subst h4
            rw [if_pos rfl] at hTK
            have X:Aside (D=(0,Z,Y,N4,t4)):=hTK
            clear hTK
            go_wp2
            obtain ⟨r1,r2⟩:=R.out
            have hH:=((r2.set 0 (.int .u64 (Z:Int))).set 1 (.int .u64 (Y:Int))).set 2 (.slice av N4 cv)
            have hb:=((r1.setCell (p:=⟨w.heap.size,0,none⟩) (Nat.le_refl _) (.int .u64 (Z:Int))).setCell (p:=⟨w.heap.size,1,none⟩) (Nat.le_refl _) (.int .u64 (Y:Int))).setCell (p:=⟨w.heap.size,2,none⟩) (Nat.le_refl _) (.slice av N4 cv)
            have hF:=((R3.out.1.off (x:=⟨w.heap.size,0,none⟩) (fun b o e=>(R3.out.2.1 b o e).1) (.int .u64 (Z:Int))).off (x:=⟨w.heap.size,1,none⟩) (fun b o e=>(R3.out.2.1 b o e).1) (.int .u64 (Y:Int))).off (x:=⟨w.heap.size,2,none⟩) (fun b o e=>(R3.out.2.1 b o e).1) (.slice av N4 cv)
            rw [X.out]
            refine bodyPost_ret (v:=.tuple #[.agg #[.int .u64 (Z:Int),.int .u64 (Y:Int),.slice av N4 cv],.int .i64 0]) (z1d rfl _ _ w.heap.size 49 _ (0,0) _ rfl hH _ rfl Tryz.underlying49 (by kernel_rfl)) rfl ⟨av,cv,rfl,hF,hb,(fun b o e=>(R3.out.2.1 b o e).2),R3.out.2.2⟩
          · rw [if_neg h4] at hTK
            have X:Aside (D=DERR E4):=hTK
            have hne:((E4:Int) != 0)=true:=by simp [h4]
            clear hTK h4
            go_wp2
            obtain ⟨r1,r2⟩:=R.out
            have hH:=((r2.set 0 (.int .u64 0)).set 1 (.int .u64 0)).set 2 (.slice none 0 0)
            have hb:=((r1.setCell (p:=⟨w.heap.size,0,none⟩) (Nat.le_refl _) (.int .u64 0)).setCell (p:=⟨w.heap.size,1,none⟩) (Nat.le_refl _) (.int .u64 0)).setCell (p:=⟨w.heap.size,2,none⟩) (Nat.le_refl _) (.slice none 0 0)
            refine bodyPost_ret (v:=.tuple #[.agg #[.int .u64 0,.int .u64 0,.slice none 0 0],.int .i64 E4]) (z1d rfl _ _ w.heap.size 49 _ (0,0) _ rfl hH _ rfl Tryz.underlying49 (by kernel_rfl)) rfl (ERR.out E4 _ hb X.out)
        · rw [if_pos h3] at hDD
          have X:Aside (D=DERR E3):=hDD.symm
          have hne:((E3:Int) != 0)=true:=by simp [h3]
          clear hDD h3 wm
          have x0:w2.cell? ⟨w.heap.size,0,none⟩=some (.int .u64 0):=R.out.2.cell 0
          have x1:w2.cell? ⟨w.heap.size,1,none⟩=some (.int .u64 0):=R.out.2.cell 1
          have x2:w2.cell? ⟨w.heap.size,2,none⟩=some (.slice none 0 0):=R.out.2.cell 2
          have f0:=R.out.2.frozen 0
          have f1:=R.out.2.frozen 1
          have f2:=R.out.2.frozen 2
          go_wp2
          obtain ⟨r1,r2⟩:=R.out
          have hH:=((r2.set 0 (.int .u64 0)).set 1 (.int .u64 0)).set 2 (.slice none 0 0)
          have hb:=((r1.setCell (p:=⟨w.heap.size,0,none⟩) (Nat.le_refl _) (.int .u64 0)).setCell (p:=⟨w.heap.size,1,none⟩) (Nat.le_refl _) (.int .u64 0)).setCell (p:=⟨w.heap.size,2,none⟩) (Nat.le_refl _) (.slice none 0 0)
          refine bodyPost_ret (v:=.tuple #[.agg #[.int .u64 0,.int .u64 0,.slice none 0 0],.int .i64 E3]) (z1d rfl _ _ w.heap.size 49 _ (0,0) _ rfl hH _ rfl Tryz.underlying49 (by kernel_rfl)) rfl (ERR.out E3 _ hb X.out)
      · rw [if_pos hE2] at hDD
        obtain ⟨r1,r2,E2,hL⟩:∃ r1 r2 E2,LNG (l.drop m')=(r1,r2,E2):=⟨_,_,_,rfl⟩
        rw [hL] at hDD hE2 ⊢
        have X:Aside (D=DERR E2):=hDD.symm
        have hne:((E2:Int) != 0)=true:=by simpa using hE2
        clear hDD hE2 hL wm
        dsimp only
        have x0:W0.cell? ⟨w.heap.size,0,none⟩=some (.int .u64 0):=R.out.2.cell 0
        have x1:W0.cell? ⟨w.heap.size,1,none⟩=some (.int .u64 0):=R.out.2.cell 1
        have x2:W0.cell? ⟨w.heap.size,2,none⟩=some (.slice none 0 0):=R.out.2.cell 2
        have f0:=R.out.2.frozen 0
        have f1:=R.out.2.frozen 1
        have f2:=R.out.2.frozen 2
        go_wp2
        obtain ⟨r1,r2⟩:=R.out
        have hH:=((r2.set 0 (.int .u64 0)).set 1 (.int .u64 0)).set 2 (.slice none 0 0)
        have hb:=((r1.setCell (p:=⟨w.heap.size,0,none⟩) (Nat.le_refl _) (.int .u64 0)).setCell (p:=⟨w.heap.size,1,none⟩) (Nat.le_refl _) (.int .u64 0)).setCell (p:=⟨w.heap.size,2,none⟩) (Nat.le_refl _) (.slice none 0 0)
        refine bodyPost_ret (v:=.tuple #[.agg #[.int .u64 0,.int .u64 0,.slice none 0 0],.int .i64 E2]) (z1d rfl _ _ w.heap.size 49 _ (0,0) _ rfl hH _ rfl Tryz.underlying49 (by kernel_rfl)) rfl (ERR.out E2 _ hb X.out)
    · rw [if_pos hE1] at hDD
      obtain ⟨r1,r2,E1,hL⟩:∃ r1 r2 E1,LNG (l.drop 1)=(r1,r2,E1):=⟨_,_,_,rfl⟩
      rw [hL] at hDD hE1 ⊢
      have X:Aside (D=DERR E1):=hDD.symm
      have hne:((E1:Int) != 0)=true:=by simpa using hE1
      clear hDD hE1 hL
      dsimp only
      have x0:W0.cell? ⟨w.heap.size,0,none⟩=some (.int .u64 0):=R.out.2.cell 0
      have x1:W0.cell? ⟨w.heap.size,1,none⟩=some (.int .u64 0):=R.out.2.cell 1
      have x2:W0.cell? ⟨w.heap.size,2,none⟩=some (.slice none 0 0):=R.out.2.cell 2
      have f0:=R.out.2.frozen 0
      have f1:=R.out.2.frozen 1
      have f2:=R.out.2.frozen 2
      go_wp2
      obtain ⟨r1,r2⟩:=R.out
      have hH:=((r2.set 0 (.int .u64 0)).set 1 (.int .u64 0)).set 2 (.slice none 0 0)
      have hb:=((r1.setCell (p:=⟨w.heap.size,0,none⟩) (Nat.le_refl _) (.int .u64 0)).setCell (p:=⟨w.heap.size,1,none⟩) (Nat.le_refl _) (.int .u64 0)).setCell (p:=⟨w.heap.size,2,none⟩) (Nat.le_refl _) (.slice none 0 0)
      refine bodyPost_ret (v:=.tuple #[.agg #[.int .u64 0,.int .u64 0,.slice none 0 0],.int .i64 E1]) (z1d rfl _ _ w.heap.size 49 _ (0,0) _ rfl hH _ rfl Tryz.underlying49 (by kernel_rfl)) rfl (ERR.out E1 _ hb X.out)
  · rw [if_pos hK] at hDD
    have X:Aside (D=DERR 14):=hDD.symm
    clear hB hc hn h0 hDD hln
    generalize l.getD 0 0=x at *
    go_enter Tryz.func22,Tryz.ntmps22
    go_wp2
    refine bodyPost_ret (v:=.tuple #[.agg #[.int .u64 0,.int .u64 0,.slice none 0 0],.int .i64 14]) (z1d rfl _ _ w.heap.size 49 _ (0,0) _ rfl R.out.2 _ rfl Tryz.underlying49 (by kernel_rfl)) rfl (ERR.out 14 _ R.out.1 X.out)
end Go.Proofs.YtbmjoiiagldklaaGreatDoor

namespace Go.Proofs.YtbmjoiiagldklaaGreatDoor
open Go.RowKit
set_option maxRecDepth 100000
theorem z9i {b t:List Int} (hr:∀ x∈b,0≤x∧x≤255) {S I N:Nat} (hS:S<2 ^ 64) (hI:I<2 ^ 64) (h:DEC b=(0,S,I,N,t)):I<S∧S≤4611686018427387904∧N=(PSP I S).length:=by
  obtain ⟨_,_,h3,h4,_⟩:=zfe hS hI (zdB hr h).1
  have hIS:I<S∧S≤4611686018427387904:=by
    unfold PLA at h3
    split at h3
    · simp at h3
    · split at h3
      · simp at h3
      · omega
  have hPL:PLA I S=(0,PLCS (PSP I S)):=by
    unfold PLA
    rw [if_neg (by omega),if_neg (by omega)]
  refine ⟨hIS.1,hIS.2,?_⟩
  rw [h4,hPL]
  exact z16 _
set_option maxHeartbeats 4000000 in
theorem z63 (d:Int) (root:List Int) (hroot:IsH root) (n i:Nat) (hn:n<2 ^ 64) (leaf:List Int) (hleaf:IsH leaf) (ba:Option Addr) (bn bc:Nat) (hbn:bn≤1000000) (hbc:bn≤bc) (bl:List Int) (w:World) (hB:Bytes w ba bn bl) (hS:(DEC bl).2.1<2 ^ 64) (hI:(DEC bl).2.2.1<2 ^ 64):
    Calls Tryz.prog 8 #[.int .i64 d,.agg (z01 root).toArray,.int .u64 (n:Int),.int .u64 (i:Int),.agg (z01 leaf).toArray,.slice ba bn bc] w fun e w'=>e=.returned (.int .i64 (MEMA d root n i leaf bl))∧Below w.heap.size w w':=by
  have l32:=hleaf.1
  have r32:=hroot.1
  obtain ⟨W0,hW0⟩:∃ W0,(w.alloc (.cells (z01 root).toArray 23)).alloc (.cells (z01 leaf).toArray 23)=W0:=⟨_,rfl⟩
  obtain ⟨b7,hb7⟩:∃ b7,w.heap.size=b7:=⟨_,rfl⟩
  obtain ⟨b10,hb10⟩:∃ b10,b7+1=b10:=⟨_,rfl⟩
  have R0:Aside (Below w.heap.size w W0∧Has W0 b7 (z01 root).toArray 23∧Has W0 b10 (z01 leaf).toArray 23):=by
    rw [← hW0,← hb10,← hb7]
    exact ⟨((Below.refl _ _).alloc (Nat.le_refl _) _).alloc (by simp) _,(Has.new _ _ _).alloc _,Has.at _ _ _ (by simp)⟩
  have cd:=zaF ba bn bc hbn bl W0 (hB.below R0.out.1) hbc
  have hth:(DEC bl).1=0→(DEC bl).2.2.1<(DEC bl).2.1∧(DEC bl).2.1≤4611686018427387904∧(DEC bl).2.2.2.1=(PSP (DEC bl).2.2.1 (DEC bl).2.1).length:=fun h=>z9i hB.2.2 hS hI (t:=(DEC bl).2.2.2.2) (by rw [← h])
  unfold MEMA
  unfold DECF at cd
  generalize DEC bl=D at *
  obtain ⟨E,S,I,N,L⟩:=D
  dsimp only at *
  have HA:Aside (IsH leaf∧IsH root∧n<2 ^ 64∧(E=0→I<S∧S≤4611686018427387904∧N=(PSP I S).length)∧S<2 ^ 64∧I<2 ^ 64):=⟨hleaf,hroot,hn,hth,hS,hI⟩
  clear hleaf hroot hn hbn hbc hB hth hS hI
  obtain ⟨V,hV⟩:∃ V,(if E≠0 then E else if S≠n then 30 else if I≠i then 32 else UNDA d n (CLA d leaf S I N L).2.1 (CLA d leaf S I N L).2.2 root)=V:=⟨_,rfl⟩
  rw [hV]
  have HV:Aside ((¬ E=0→V=E)∧(E=0→¬ S=n→V=30)∧(E=0→S=n→¬ I=i→V=32)∧(E=0→S=n→I=i→V=UNDA d n (CLA d leaf S I N L).2.1 (CLA d leaf S I N L).2.2 root)):=by
    rw [← hV]
    exact ⟨fun h=>if_pos h,fun h h2=>by rw [if_neg (by simpa using h),if_pos h2],fun h h2 h3=>by rw [if_neg (by simpa using h),if_neg (by simpa using h2),if_pos h3],fun h h2 h3=>by rw [if_neg (by simpa using h),if_neg (by simpa using h2),if_neg (by simpa using h3)]⟩
  clear hV
  go_enter Tryz.func8,Tryz.ntmps8
  go_upto_region 1 with fail
  clear hW0
  go_wp2_with fail
  refine cd.mono ?_
  rintro e w1 ⟨a1,c1,rfl,f1,hb1,_⟩
  have R1:Aside (Below w.heap.size w w1∧Has w1 b7 (z01 root).toArray 23∧Has w1 b10 (z01 leaf).toArray 23∧Flat w1 a1 N L):=⟨R0.out.1.trans (hb1.mono R0.out.1.size),R0.out.2.1.keep hb1,R0.out.2.2.keep hb1,f1⟩
  clear cd R0 hb1 f1 hb7 hb10
  go_upto_region 2 with fail
  obtain ⟨w2,e2⟩:∃ w2,w1.alloc (.cells #[.int .u64 (S:Int),.int .u64 (I:Int),.slice a1 N c1] 49)=w2:=⟨_,rfl⟩
  obtain ⟨b13,hb13⟩:∃ b13,w1.heap.size=b13:=⟨_,rfl⟩
  rw [e2,hb13]
  have hb2:Below w1.heap.size w1 w2:=by rw [← e2];exact (Below.refl _ _).alloc (Nat.le_refl _) _
  have R2:Aside (Below w.heap.size w w2∧Has w2 b7 (z01 root).toArray 23∧Has w2 b10 (z01 leaf).toArray 23∧Flat w2 a1 N L∧Has w2 b13 #[.int .u64 (S:Int),.int .u64 (I:Int),.slice a1 N c1] 49):=⟨R1.out.1.trans (hb2.mono R1.out.1.size),R1.out.2.1.keep hb2,R1.out.2.2.1.keep hb2,R1.out.2.2.2.below hb2,by rw [← e2,← hb13];exact Has.new _ _ _⟩
  clear e2 hb13 hb2 R1
  have hb:=R2.out.1
  by_cases hE:E=0
  · subst hE
    have p0:=R2.out.2.2.2.2.cell 0
    have p1:=R2.out.2.2.2.2.cell 1
    have p2:=R2.out.2.2.2.2.cell 2
    by_cases hSn:S=n
    · subst hSn
      by_cases hIi:I=i
      · subst hIi
        have hV:=HV.out.2.2.2 rfl rfl rfl
        obtain ⟨t1,t2,t3⟩:=HA.out.2.2.2.1 rfl
        have hPL:PLA I S=(0,PLCS (PSP I S)):=by
          unfold PLA
          rw [if_neg (by omega),if_neg (by omega)]
        have cc:=zbD d leaf HA.out.1 S I (by omega) (by omega) a1 N c1 (by have:=z68 t1 t2;omega) L w2 R2.out.2.2.2.1
        have hCL:CLA d leaf S I N L=(0,PC S,CAT (CLM d leaf S I L) (SPAN 0 S)):=by
          unfold CLA
          rw [hPL,if_neg (by simp),if_neg (by rw [z16];simpa using t3)]
        have hrg:=z60 (d:=d) (S:=S) (I:=I) HA.out.1 R2.out.2.2.2.1.1 R2.out.2.2.2.1.2.2
        rw [hCL] at cc hrg hV
        dsimp only at hrg hV
        unfold ANSH at cc
        dsimp only at cc
        generalize CAT (CLM d leaf S I L) (SPAN 0 S)=P at *
        have hpc:PC S≠0:=fun h=>by
          have:=z54 t1 t2
          have:=z2m t1 t2
          omega
        have hUN:UNDA d S (PC S) P root=if z0X d S (FLD d P (PC S))=root then 0 else 80:=by
          have hBA:BAGA d S (PC S) P=(0,z0X d S (FLD d P (PC S))):=by
            unfold BAGA
            rw [if_neg (by omega),if_neg (by simp)]
          unfold UNDA
          rw [hBA]
          simp
        rw [hUN] at hV
        have CB:Aside (∀ W a c,Flat W a (PC S) P→Calls Tryz.prog 24 #[.int .i64 d,.int .u64 (S:Int),.slice a (PC S) c] W fun e w'=>e=.returned (.tuple #[.agg (z01 (z0X d S (FLD d P (PC S)))).toArray,.int .i64 0])∧Below W.heap.size W w'):=fun W a c hf=>zdJ d S t2 a (PC S) c rfl hpc P W hf
        have hYI:IsH (z0X d S (FLD d P (PC S))):=z5k _ _ _
        generalize z0X d S (FLD d P (PC S))=Y at *
        generalize PC S=m at *
        have hs10:=R2.out.2.2.1
        have HP:Aside (∀ x∈P,0≤x∧x≤255):=hrg
        have HW:Aside (V=if Y=root then 0 else 80):=hV
        clear t1 t2 t3 hPL hCL hrg hpc hUN hV HV
        go_wp2_with (refine wpList_load_row rfl 23 (.tmp 10) rfl b10 rfl 23 (z01 leaf).toArray (0,0) _ hs10 Tryz.underlying23 rfl (z05 l32) ?_)
        refine cc.mono ?_
        rintro e w3 ⟨a3,c3,rfl,o3,hb3⟩
        have R3:Aside (Below w.heap.size w w3∧Has w3 b7 (z01 root).toArray 23∧Flat w3 a3 m P):=⟨R2.out.1.trans (hb3.mono R2.out.1.size),R2.out.2.1.keep hb3,z3f o3 HP.out⟩
        clear cc o3 hb3 hs10 p0 p1 p2 R2 hb HP
        have cb:=CB.out w3 a3 c3 R3.out.2.2
        have y32:=hYI.1
        go_wp2_with fail
        refine cb.mono ?_
        rintro e w4 ⟨rfl,hb4⟩
        have R4:Aside (Below w.heap.size w w4∧Has w4 b7 (z01 root).toArray 23):=⟨R3.out.1.trans (hb4.mono R3.out.1.size),R3.out.2.1.keep hb4⟩
        clear cb hb4 R3 CB
        go_upto_region 10 with (refine wpList_store_row rfl 23 (.tmp 17) (.tmp 47) rfl _ _ rfl rfl 23 _ (Has.new w4 _ _) (z05 y32) (by simp [z01,y32]) (z0u Y) ?_;rw [World.setRow_alloc_new])
        have R5:Aside (Below w.heap.size w (w4.alloc (.cells (z01 Y).toArray 23))∧Has (w4.alloc (.cells (z01 Y).toArray 23)) b7 (z01 root).toArray 23∧Has (w4.alloc (.cells (z01 Y).toArray 23)) w4.heap.size (z01 Y).toArray 23):=⟨R4.out.1.alloc R4.out.1.size _,R4.out.2.alloc _,Has.new _ _ _⟩
        generalize w4.alloc (.cells (z01 Y).toArray 23)=w5 at *
        generalize w4.heap.size=b17 at *
        have h7:=R5.out.2.1
        have h17:=R5.out.2.2
        have hq:=zf0 hYI HA.out.2.1
        by_cases hY:Y=root
        · have HY:Aside (Y=root):=hY
          rw [decide_eq_true hY] at hq
          clear hYI hY
          go_wp2_with (first
            | (refine wpList_load_row rfl 23 (.tmp 17) rfl b17 rfl 23 (z01 Y).toArray (0,0) _ h17 Tryz.underlying23 rfl (z05 y32) ?_)
            | (refine wpList_load_row rfl 23 (.tmp 7) rfl b7 rfl 23 (z01 root).toArray (0,0) _ h7 Tryz.underlying23 rfl (z05 r32) ?_))
          go_ret
          exact ⟨by rw [HW.out,if_pos HY.out];rfl,R5.out.1⟩
        · have HY:Aside (¬ Y=root):=hY
          rw [decide_eq_false hY] at hq
          clear hYI hY
          go_wp2_with (first
            | (refine wpList_load_row rfl 23 (.tmp 17) rfl b17 rfl 23 (z01 Y).toArray (0,0) _ h17 Tryz.underlying23 rfl (z05 y32) ?_)
            | (refine wpList_load_row rfl 23 (.tmp 7) rfl b7 rfl 23 (z01 root).toArray (0,0) _ h7 Tryz.underlying23 rfl (z05 r32) ?_))
          go_ret
          exact ⟨by rw [HW.out,if_neg HY.out];rfl,R5.out.1⟩
      · have hV:Aside (V=32):=HV.out.2.2.1 rfl rfl hIi
        have hne:((I:Int) == (i:Int))=false:=beq_eq_false_iff_ne.2 (by omega)
        clear hIi R2 HA HV
        go_wp2_with fail
        go_ret
        exact ⟨by rw [hV.out];rfl,hb⟩
    · have hV:Aside (V=30):=HV.out.2.1 rfl hSn
      have hne:((S:Int) == (n:Int))=false:=beq_eq_false_iff_ne.2 (by omega)
      clear hSn R2 HA HV
      go_wp2_with fail
      go_ret
      exact ⟨by rw [hV.out];rfl,hb⟩
  · have hV:Aside (V=E):=HV.out.1 hE
    have hne:(E == 0)=false:=beq_eq_false_iff_ne.2 hE
    clear R2 HA hE HV
    go_wp2_with fail
    go_ret
    exact ⟨by rw [hV.out];rfl,hb⟩
end Go.Proofs.YtbmjoiiagldklaaGreatDoor
